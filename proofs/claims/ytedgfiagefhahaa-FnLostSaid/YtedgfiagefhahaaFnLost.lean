/- For every code the law FnLost answers true and leaves its argument as it was; no condition. -/
import Derived.Test.YtedgfiagefhahaaRows
import Derived.Test.YtedgfiagefhahaaDraw
import Derived.Test.YtedgfiagefhahaaBdB
import Derived.Test.YtedgfiagefhahaaBdI
import Derived.Test.YtedgfiagefhahaaBdU
import Derived.WalkKit
import Derived.ProofKit
import Derived.OpenShut
import Derived.ShutString
import Derived.ChangeOld
import Derived.Below
import Derived.Lib.SmallJoins
namespace Go.Proofs.Ytedgfiagefhahaa.fnLost
open Go.ChangeShapes Go.WideShapes Go.ChangeAt Go.RowKit Go.Joins
open Go.ChangeMaps (open_string shut_string)
set_option linter.unusedVariables false

theorem own : ownKnob Try.prog.godebug = none := by kernel_rfl
theorem laidOut : laidOutB Try.prog = true := by kernel_rfl


def IsRow (k : IntKind) (w : World) (a : Option Addr) (len cap : Nat) (zs : List Int) : Prop :=
  (a = none ∧ len = 0 ∧ cap = 0 ∧ zs = []) ∨
  ∃ x, a = some x ∧ len ≤ cap ∧ cap ≤ maxLen ∧ zs.length = cap ∧ (∀ i, i < zs.length → w.cell? (x.add i) = some (.int k (zs.getD i 0))) ∧ ∀ n ∈ zs, (Lit.int k n).wf = true

theorem lost_impl_as {u n p m : Int} {a : Option Addr} {c : Nat} {l : List Rg} {x : Bool} (hx : lostL u n l p m = x) (W : World) (h : RgAt W a l) (hl : l.length ≤ 1048576) : Calls Try.prog 27 #[bdV u n a l.length c, .int .i64 p, .int .i64 m] W fun e w' => e = .returned (.bool x) ∧ W.grownBy w' none := by
  have k := lost_impl u n a c l p m W h hl
  rw [hx] at k
  exact k
theorem lost_spec_as {u n p m : Int} {a : Option Addr} {c : Nat} {l : List Rg} {x : Bool} (hx : lostL u n l p m = x) (W : World) (h : RgAt W a l) (hl : l.length ≤ 1048576) : Calls Try.prog 28 #[bdV u n a l.length c, .int .i64 p, .int .i64 m] W fun e w' => e = .returned (.bool x) ∧ W.grownBy w' none := by
  have k := lost_spec u n a c l p m W h hl
  rw [hx] at k
  exact k
theorem sacked_as {u n p : Int} {a : Option Addr} {c : Nat} {l : List Rg} {x : Bool} (hx : inL l p = x) (W : World) (h : RgAt W a l) (hl : l.length ≤ 1048576) : Calls Try.prog 20 #[bdV u n a l.length c, .int .i64 p] W fun e w' => e = .returned (.bool x) ∧ W.grownBy w' none := by
  have k := sacked_any u n a c l p W h hl
  rw [hx] at k
  exact k
theorem cnt_bd (l : List Rg) (a : Int) : ∀ k : Nat, 0 ≤ cntL l a k ∧ cntL l a k ≤ k
  | 0 => ⟨Int.le_refl _, Int.le_refl _⟩
  | k + 1 => by
    have h := cnt_bd l a k
    rw [cntL]
    split <;> omega
def LmRel (w : World) (l : List Rg) (n p : Int) (v i : Value) (wr : World) : Prop := ∃ k : Nat, i = .int .i64 (p + k) ∧ v = .int .i64 (cntL l p k) ∧ p + k ≤ n ∧ k ≤ 300 ∧ w.grownBy wr none
def LaRel (w : World) (u p : Int) (i : Value) (wr : World) : Prop := ∃ g : Int, i = .int .i64 g ∧ u ≤ g ∧ g ≤ p ∧ w.grownBy wr none

set_option maxRecDepth 100000 in
set_option maxHeartbeats 4000000 in
theorem walk (a0 : Option Addr) (len0 cap0 : Nat) (z0 : List Int) (w : World) (w0 : IsRow .u8 w a0 len0 cap0 z0) :
    Calls Try.prog 5 #[.slice a0 len0 cap0] w fun e w' => e = .returned (.bool true) ∧ Below w.heap.size w w' := by
  have hc := code_of w0
  clear w0
  have HC := Lib.hid hc
  clear hc
  by_cases hbig : 1048576 < len0
  · go_enter Try.func5, Try.ntmps5
    go_wp2_with (go_at_call 8; refine (big_any _ _ _ _).mono ?_; rintro e w' ⟨rfl, rfl⟩)
    go_ret
    exact ⟨rfl, Below.refl _ _⟩
  · go_enter Try.func5, Try.ntmps5
    go_wp2_with (go_at_call 8; refine (big_any _ _ _ _).mono ?_; rintro e w' ⟨rfl, rfl⟩)
    have H0 := Lib.hid (And.intro HC.out (World.grownBy.refl w none))
    go_wp2_with fail
    refine (draw_blost _ _ _ _ H0.out.1).mono ?_
    rintro e v0 ⟨u, n, ao, co, l, p, m, rfl, hp, hm, hd⟩
    have hg := hd.g
    have hrow := hd.row.at
    have hro := own_rowOk hd.row
    have HL1 := Lib.hid hd.ll
    have HF1 := Lib.hid hd.fi
    clear hp hm hd
    have H1 := Lib.hid (And.intro ((H0.out.1.kept hg).kept (World.grownBy_alloc v0 (.cells #[.int .i64 u, .int .i64 n, .slice ao l.length co] 26) none)) (And.intro (BB.new v0 (u := u) (n := n) (c := co) hrow) (And.intro ((hro).kept (World.grownBy_alloc v0 (.cells #[.int .i64 u, .int .i64 n, .slice ao l.length co] 26) none)) (gA (grownBy_trans (H0.out.2) hg) (.cells #[.int .i64 u, .int .i64 n, .slice ao l.length co] 26)))))
    clear hg hrow hro
    go_upto_region 4 with fail
    generalize v0.heap.size = Bb at *
    generalize v0.alloc (.cells #[.int .i64 u, .int .i64 n, .slice ao l.length co] 26) = v0a at *
    obtain ⟨x, hx⟩ : ∃ x, lostL u n l p m = x := ⟨_, rfl⟩
    have HX := Lib.hid hx
    clear hx
    cases x
    · have bb_0 := H1.out.2.1.bx.c 0 (x := .int .i64 u) rfl
      have bb_1 := H1.out.2.1.bx.c 1 (x := .int .i64 n) rfl
      have bb_2 := H1.out.2.1.bx.c 2 (x := .slice ao l.length co) rfl
      have bb_l := H1.out.2.1.bx.lt
      go_wp2_with fail
      refine (lost_impl_as HX.out _ (H1.out.2.1.rg) (by have := HL1.out; omega)).mono ?_
      rintro e v1 ⟨rfl, hg⟩
      have H2 := Lib.hid (And.intro (H1.out.1.kept hg) (And.intro (H1.out.2.1.keep hg) (And.intro (H1.out.2.2.1.kept hg) (grownBy_trans (H1.out.2.2.2) hg))))
      clear hg
      clear bb_0 bb_1 bb_2 bb_l
      have bb_0 := H2.out.2.1.bx.c 0 (x := .int .i64 u) rfl
      have bb_1 := H2.out.2.1.bx.c 1 (x := .int .i64 n) rfl
      have bb_2 := H2.out.2.1.bx.c 2 (x := .slice ao l.length co) rfl
      have bb_l := H2.out.2.1.bx.lt
      go_wp2_with fail
      refine (lost_spec_as HX.out _ (H2.out.2.1.rg) (by have := HL1.out; omega)).mono ?_
      rintro e v2 ⟨rfl, hg⟩
      have H3 := Lib.hid (And.intro (H2.out.1.kept hg) (And.intro (H2.out.2.1.keep hg) (And.intro (H2.out.2.2.1.kept hg) (grownBy_trans (H2.out.2.2.2) hg))))
      clear hg
      clear bb_0 bb_1 bb_2 bb_l
      have bb_0 := H3.out.2.1.bx.c 0 (x := .int .i64 u) rfl
      have bb_1 := H3.out.2.1.bx.c 1 (x := .int .i64 n) rfl
      have bb_2 := H3.out.2.1.bx.c 2 (x := .slice ao l.length co) rfl
      have bb_l := H3.out.2.1.bx.lt
      go_wp2_with fail
      refine (lost_spec_as HX.out _ (H3.out.2.1.rg) (by have := HL1.out; omega)).mono ?_
      rintro e v3 ⟨rfl, hg⟩
      have H4 := Lib.hid (And.intro (H3.out.1.kept hg) (And.intro (H3.out.2.1.keep hg) (And.intro (H3.out.2.2.1.kept hg) (grownBy_trans (H3.out.2.2.2) hg))))
      clear hg
      clear bb_0 bb_1 bb_2 bb_l
      go_wp2_with fail
      go_ret
      exact ⟨rfl, below_new (H4.out.2.2.2)⟩
    · have bb_0 := H1.out.2.1.bx.c 0 (x := .int .i64 u) rfl
      have bb_1 := H1.out.2.1.bx.c 1 (x := .int .i64 n) rfl
      have bb_2 := H1.out.2.1.bx.c 2 (x := .slice ao l.length co) rfl
      have bb_l := H1.out.2.1.bx.lt
      go_wp2_with fail
      refine (lost_impl_as HX.out _ (H1.out.2.1.rg) (by have := HL1.out; omega)).mono ?_
      rintro e v1 ⟨rfl, hg⟩
      have H2 := Lib.hid (And.intro (H1.out.1.kept hg) (And.intro (H1.out.2.1.keep hg) (And.intro (H1.out.2.2.1.kept hg) (grownBy_trans (H1.out.2.2.2) hg))))
      clear hg
      clear bb_0 bb_1 bb_2 bb_l
      have bb_0 := H2.out.2.1.bx.c 0 (x := .int .i64 u) rfl
      have bb_1 := H2.out.2.1.bx.c 1 (x := .int .i64 n) rfl
      have bb_2 := H2.out.2.1.bx.c 2 (x := .slice ao l.length co) rfl
      have bb_l := H2.out.2.1.bx.lt
      go_wp2_with fail
      refine (lost_spec_as HX.out _ (H2.out.2.1.rg) (by have := HL1.out; omega)).mono ?_
      rintro e v2 ⟨rfl, hg⟩
      have H3 := Lib.hid (And.intro (H2.out.1.kept hg) (And.intro (H2.out.2.1.keep hg) (And.intro (H2.out.2.2.1.kept hg) (grownBy_trans (H2.out.2.2.2) hg))))
      clear hg
      clear bb_0 bb_1 bb_2 bb_l
      obtain ⟨hbp, up, pn, m1, m9, inp, hmany⟩ := lost_of HX.out
      have b1 := hbp.1
      have b2 := hbp.2.1
      have b3 := hbp.2.2.1
      have HIN := Lib.hid inp
      have HHI := Lib.hid (fun (k : Nat) (hk : n ≤ p + k ∨ 300 ≤ k) => lost_many (k := k) HX.out (fun x hx => by have := (hbp.2.2.2.2.1 x hx).2.2; have := HF1.out.2 (bd_yes hbp) x hx; omega))
      clear hbp inp hmany
      have s1 : IntKind.i64.wrap (p + 300) = p + 300 := IntWalk.i64_in _ (by omega)
      have s2 : IntKind.i64.wrap (p - 100) = p - 100 := IntWalk.i64_in _ (by omega)
      go_wp2_with fail
      go_loopw [7, 8] (fun v i wr => LmRel v2 l n p v i wr) (fun _ i _ => (p + 301 - intOf i).toNat)
      case atStart => exact ⟨0, by simp, rfl, by omega, by omega, World.grownBy.refl _ _⟩
      case round =>
        obtain ⟨k, hi, hv, hk1, hk2, hg⟩ := hrel
        obtain ⟨q, hq⟩ : ∃ q : Int, q = p + k := ⟨_, rfl⟩
        rw [← hq] at hi
        subst hi
        have hq0 : p ≤ q := by omega
        have hq1 : q ≤ n := by omega
        have hq2 : q ≤ p + 300 := by omega
        have HQK := Lib.hid hq
        clear hq
        obtain ⟨z, hz⟩ : ∃ z : Int, z = cntL l p k := ⟨_, rfl⟩
        rw [← hz] at hv
        subst hv
        have HZ := Lib.hid hz
        have hz0 : 0 ≤ z ∧ z ≤ k := by rw [hz]; exact cnt_bd l p k
        clear hz
        have H4 := Lib.hid (And.intro (H3.out.1.kept hg) (And.intro (H3.out.2.1.keep hg) (And.intro (H3.out.2.2.1.kept hg) (grownBy_trans (H3.out.2.2.2) hg))))
        have HG0 := Lib.hid hg
        clear hg
        by_cases c1 : q < n
        · by_cases c2 : q < p + 300
          · have s3 : IntKind.i64.wrap (z + 1) = z + 1 := IntWalk.i64_in _ (by omega)
            have s4 : IntKind.i64.wrap (q + 1) = q + 1 := IntWalk.i64_in _ (by omega)
            obtain ⟨y, hy⟩ : ∃ y, inL l q = y := ⟨_, rfl⟩
            have HY := Lib.hid hy
            clear hy
            have bb_0 := H4.out.2.1.bx.c 0 (x := .int .i64 u) rfl
            have bb_1 := H4.out.2.1.bx.c 1 (x := .int .i64 n) rfl
            have bb_2 := H4.out.2.1.bx.c 2 (x := .slice ao l.length co) rfl
            have bb_l := H4.out.2.1.bx.lt
            go_wp2_with fail
            refine (sacked_as HY.out _ (H4.out.2.1.rg) (by have := HL1.out; omega)).mono ?_
            rintro e v4 ⟨rfl, hg⟩
            have HG4 := Lib.hid hg
            have H5 := Lib.hid (And.intro (H4.out.1.kept hg) (And.intro (H4.out.2.1.keep hg) (And.intro (H4.out.2.2.1.kept hg) (grownBy_trans (H4.out.2.2.2) hg))))
            clear hg
            clear bb_0 bb_1 bb_2 bb_l
            have HE := Lib.hid (show cntL l p (k + 1) = z + (if y = true then 1 else 0) by rw [cntL, ← HZ.out, ← HQK.out, HY.out])
            have bb_0 := H5.out.2.1.bx.c 0 (x := .int .i64 u) rfl
            have bb_1 := H5.out.2.1.bx.c 1 (x := .int .i64 n) rfl
            have bb_2 := H5.out.2.1.bx.c 2 (x := .slice ao l.length co) rfl
            have bb_l := H5.out.2.1.bx.lt
            cases y
            · go_wp2_with fail
              go_roundw
              case rel => exact ⟨k + 1, by have := HQK.out; congr 1; omega, by rw [HE.out]; first | rfl | simp, by have := HQK.out; omega, by have := HQK.out; omega, grownBy_trans HG0.out HG4.out⟩
              case measure => simp [intOf]; omega
            · go_wp2_with fail
              go_roundw
              case rel => exact ⟨k + 1, by have := HQK.out; congr 1; omega, by rw [HE.out]; first | rfl | simp, by have := HQK.out; omega, by have := HQK.out; omega, grownBy_trans HG0.out HG4.out⟩
              case measure => simp [intOf]; omega
          · have hmn := HHI.out k (by have := HQK.out; omega)
            rw [← HZ.out] at hmn
            clear HZ
            have bb_0 := H4.out.2.1.bx.c 0 (x := .int .i64 u) rfl
            have bb_1 := H4.out.2.1.bx.c 1 (x := .int .i64 n) rfl
            have bb_2 := H4.out.2.1.bx.c 2 (x := .slice ao l.length co) rfl
            have bb_l := H4.out.2.1.bx.lt
            go_upto_region 13 with fail
            go_cut [9] (fun s9 wx => ∃ g : Int, s9 = .int .i64 g ∧ u ≤ g ∧ g ≤ p ∧ wr = wx)
            case first =>
              rcases Int.lt_trichotomy u (p - 100) with ht | ht | ht
              · go_wp2_with fail
                go_meet
                exact ⟨_, rfl, by omega, by omega, rfl⟩
              · subst ht
                go_wp2_with fail
                go_meet
                exact ⟨_, rfl, by omega, by omega, rfl⟩
              · go_wp2_with fail
                go_meet
                exact ⟨_, rfl, by omega, by omega, rfl⟩
            case rest =>
              obtain ⟨g0, rfl, hg1, hg2, hw⟩ := hcut
              subst hw
              clear bb_0 bb_1 bb_2 bb_l
              go_wp2_with fail
              go_loopw [9] (fun i ws => LaRel wr u p i ws) (fun i _ => (p + 1 - intOf i).toNat)
              case atStart => exact ⟨g0, rfl, hg1, hg2, World.grownBy.refl _ _⟩
              case round =>
                obtain ⟨g, rfl, h1, h2, hg⟩ := hrel
                have HG9 := Lib.hid hg
                have H5 := Lib.hid (And.intro (H4.out.1.kept hg) (And.intro (H4.out.2.1.keep hg) (And.intro (H4.out.2.2.1.kept hg) (grownBy_trans (H4.out.2.2.2) hg))))
                clear hg
                by_cases hlt : g < p
                · have s5 : IntKind.i64.wrap (g + 1) = g + 1 := IntWalk.i64_in _ (by omega)
                  obtain ⟨y, hy⟩ : ∃ y, inL l g = y := ⟨_, rfl⟩
                  have hy2 : lostL u n l g m = !y := by rw [← hy]; exact lost_ahead HX.out h1 hlt
                  have HY := Lib.hid hy
                  have HY2 := Lib.hid hy2
                  clear hy hy2
                  go_upto_region 16 with fail
                  go_cut [73] (fun s73 wx => s73 = .bool false ∧ wr.grownBy wx none)
                  case first =>
                    have bb_0 := H5.out.2.1.bx.c 0 (x := .int .i64 u) rfl
                    have bb_1 := H5.out.2.1.bx.c 1 (x := .int .i64 n) rfl
                    have bb_2 := H5.out.2.1.bx.c 2 (x := .slice ao l.length co) rfl
                    have bb_l := H5.out.2.1.bx.lt
                    go_region_with (first | (go_at_call 27; ((with_reducible refine (lost_impl_as HY2.out _ ((H5.out.2.1.rg.kept (by first | with_reducible exact World.grownBy.refl _ _ | with_reducible exact grownBy_drew))) (by have := HL1.out; omega)).mono ?_); rintro e v20 ⟨rfl, hg⟩; have G2 := Lib.hid (show wr.grownBy v20 none from (by first | with_reducible exact hg | with_reducible exact grownBy_trans grownBy_drew hg)); clear hg; have bb_0 := (H5.out.2.1.bx.keep G2.out).c 0 (x := .int .i64 u) rfl; have bb_1 := (H5.out.2.1.bx.keep G2.out).c 1 (x := .int .i64 n) rfl; have bb_2 := (H5.out.2.1.bx.keep G2.out).c 2 (x := .slice ao l.length co) rfl; have bb_l := (H5.out.2.1.bx.keep G2.out).lt)) | (go_at_call 20; ((with_reducible refine (sacked_as HY.out _ ((H5.out.2.1.rg.kept G2.out)) (by have := HL1.out; omega)).mono ?_); rintro e v21 ⟨rfl, hg⟩; have G3 := Lib.hid (show v20.grownBy v21 none from (by first | with_reducible exact hg | with_reducible exact grownBy_trans grownBy_drew hg)); clear hg; skip)))
                    all_goals
                      go_wp2_with fail
                      go_meet
                      first | exact ⟨by cases y <;> rfl, grownBy_trans G2.out G3.out⟩ | (trace_state; fail)
                  case rest =>
                    obtain ⟨rfl, hg⟩ := hcut
                    have HW := Lib.hid (grownBy_trans HG9.out hg)
                    clear hg
                    go_wp2_with fail
                    go_roundw
                    case rel => exact ⟨g + 1, rfl, by omega, by omega, HW.out⟩
                    case measure => simp [intOf]; omega
                · clear h2 h1 HG9
                  have s6 : IntKind.i64.wrap (3 * m) = 3 * m := IntWalk.i64_in _ (by omega)
                  have s7 : IntKind.i64.wrap (m - 1) = m - 1 := IntWalk.i64_in _ (by omega)
                  have bb_0 := H5.out.2.1.bx.c 0 (x := .int .i64 u) rfl
                  have bb_1 := H5.out.2.1.bx.c 1 (x := .int .i64 n) rfl
                  have bb_2 := H5.out.2.1.bx.c 2 (x := .slice ao l.length co) rfl
                  have bb_l := H5.out.2.1.bx.lt
                  go_wp2_with fail
                  refine (sacked_as HIN.out _ (H5.out.2.1.rg) (by have := HL1.out; omega)).mono ?_
                  rintro e v5 ⟨rfl, hg⟩
                  have H6 := Lib.hid (And.intro (H5.out.1.kept hg) (And.intro (H5.out.2.1.keep hg) (And.intro (H5.out.2.2.1.kept hg) (grownBy_trans (H5.out.2.2.2) hg))))
                  clear hg
                  clear bb_0 bb_1 bb_2 bb_l
                  by_cases hm1 : m = 1
                  · subst hm1
                    have bb_0 := H6.out.2.1.bx.c 0 (x := .int .i64 u) rfl
                    have bb_1 := H6.out.2.1.bx.c 1 (x := .int .i64 n) rfl
                    have bb_2 := H6.out.2.1.bx.c 2 (x := .slice ao l.length co) rfl
                    have bb_l := H6.out.2.1.bx.lt
                    go_wp2_with fail
                    go_ret
                    exact ⟨rfl, below_new (H6.out.2.2.2)⟩
                  · have HL := Lib.hid (lost_less HX.out hm1)
                    have bb_0 := H6.out.2.1.bx.c 0 (x := .int .i64 u) rfl
                    have bb_1 := H6.out.2.1.bx.c 1 (x := .int .i64 n) rfl
                    have bb_2 := H6.out.2.1.bx.c 2 (x := .slice ao l.length co) rfl
                    have bb_l := H6.out.2.1.bx.lt
                    go_wp2_with fail
                    refine (lost_impl_as HL.out _ (H6.out.2.1.rg) (by have := HL1.out; omega)).mono ?_
                    rintro e v6 ⟨rfl, hg⟩
                    have H7 := Lib.hid (And.intro (H6.out.1.kept hg) (And.intro (H6.out.2.1.keep hg) (And.intro (H6.out.2.2.1.kept hg) (grownBy_trans (H6.out.2.2.2) hg))))
                    clear hg
                    clear bb_0 bb_1 bb_2 bb_l
                    go_wp2_with fail
                    go_ret
                    exact ⟨rfl, below_new (H7.out.2.2.2)⟩
        · have hmn := HHI.out k (by have := HQK.out; omega)
          rw [← HZ.out] at hmn
          clear HZ
          have bb_0 := H4.out.2.1.bx.c 0 (x := .int .i64 u) rfl
          have bb_1 := H4.out.2.1.bx.c 1 (x := .int .i64 n) rfl
          have bb_2 := H4.out.2.1.bx.c 2 (x := .slice ao l.length co) rfl
          have bb_l := H4.out.2.1.bx.lt
          go_upto_region 13 with fail
          go_cut [9] (fun s9 wx => ∃ g : Int, s9 = .int .i64 g ∧ u ≤ g ∧ g ≤ p ∧ wr = wx)
          case first =>
            rcases Int.lt_trichotomy u (p - 100) with ht | ht | ht
            · go_wp2_with fail
              go_meet
              exact ⟨_, rfl, by omega, by omega, rfl⟩
            · subst ht
              go_wp2_with fail
              go_meet
              exact ⟨_, rfl, by omega, by omega, rfl⟩
            · go_wp2_with fail
              go_meet
              exact ⟨_, rfl, by omega, by omega, rfl⟩
          case rest =>
            obtain ⟨g0, rfl, hg1, hg2, hw⟩ := hcut
            subst hw
            clear bb_0 bb_1 bb_2 bb_l
            go_wp2_with fail
            go_loopw [9] (fun i ws => LaRel wr u p i ws) (fun i _ => (p + 1 - intOf i).toNat)
            case atStart => exact ⟨g0, rfl, hg1, hg2, World.grownBy.refl _ _⟩
            case round =>
              obtain ⟨g, rfl, h1, h2, hg⟩ := hrel
              have HG9 := Lib.hid hg
              have H5 := Lib.hid (And.intro (H4.out.1.kept hg) (And.intro (H4.out.2.1.keep hg) (And.intro (H4.out.2.2.1.kept hg) (grownBy_trans (H4.out.2.2.2) hg))))
              clear hg
              by_cases hlt : g < p
              · have s5 : IntKind.i64.wrap (g + 1) = g + 1 := IntWalk.i64_in _ (by omega)
                obtain ⟨y, hy⟩ : ∃ y, inL l g = y := ⟨_, rfl⟩
                have hy2 : lostL u n l g m = !y := by rw [← hy]; exact lost_ahead HX.out h1 hlt
                have HY := Lib.hid hy
                have HY2 := Lib.hid hy2
                clear hy hy2
                go_upto_region 16 with fail
                go_cut [73] (fun s73 wx => s73 = .bool false ∧ wr.grownBy wx none)
                case first =>
                  have bb_0 := H5.out.2.1.bx.c 0 (x := .int .i64 u) rfl
                  have bb_1 := H5.out.2.1.bx.c 1 (x := .int .i64 n) rfl
                  have bb_2 := H5.out.2.1.bx.c 2 (x := .slice ao l.length co) rfl
                  have bb_l := H5.out.2.1.bx.lt
                  go_region_with (first | (go_at_call 27; ((with_reducible refine (lost_impl_as HY2.out _ ((H5.out.2.1.rg.kept (by first | with_reducible exact World.grownBy.refl _ _ | with_reducible exact grownBy_drew))) (by have := HL1.out; omega)).mono ?_); rintro e v20 ⟨rfl, hg⟩; have G2 := Lib.hid (show wr.grownBy v20 none from (by first | with_reducible exact hg | with_reducible exact grownBy_trans grownBy_drew hg)); clear hg; have bb_0 := (H5.out.2.1.bx.keep G2.out).c 0 (x := .int .i64 u) rfl; have bb_1 := (H5.out.2.1.bx.keep G2.out).c 1 (x := .int .i64 n) rfl; have bb_2 := (H5.out.2.1.bx.keep G2.out).c 2 (x := .slice ao l.length co) rfl; have bb_l := (H5.out.2.1.bx.keep G2.out).lt)) | (go_at_call 20; ((with_reducible refine (sacked_as HY.out _ ((H5.out.2.1.rg.kept G2.out)) (by have := HL1.out; omega)).mono ?_); rintro e v21 ⟨rfl, hg⟩; have G3 := Lib.hid (show v20.grownBy v21 none from (by first | with_reducible exact hg | with_reducible exact grownBy_trans grownBy_drew hg)); clear hg; skip)))
                  all_goals
                    go_wp2_with fail
                    go_meet
                    first | exact ⟨by cases y <;> rfl, grownBy_trans G2.out G3.out⟩ | (trace_state; fail)
                case rest =>
                  obtain ⟨rfl, hg⟩ := hcut
                  have HW := Lib.hid (grownBy_trans HG9.out hg)
                  clear hg
                  go_wp2_with fail
                  go_roundw
                  case rel => exact ⟨g + 1, rfl, by omega, by omega, HW.out⟩
                  case measure => simp [intOf]; omega
              · clear h2 h1 HG9
                have s6 : IntKind.i64.wrap (3 * m) = 3 * m := IntWalk.i64_in _ (by omega)
                have s7 : IntKind.i64.wrap (m - 1) = m - 1 := IntWalk.i64_in _ (by omega)
                have bb_0 := H5.out.2.1.bx.c 0 (x := .int .i64 u) rfl
                have bb_1 := H5.out.2.1.bx.c 1 (x := .int .i64 n) rfl
                have bb_2 := H5.out.2.1.bx.c 2 (x := .slice ao l.length co) rfl
                have bb_l := H5.out.2.1.bx.lt
                go_wp2_with fail
                refine (sacked_as HIN.out _ (H5.out.2.1.rg) (by have := HL1.out; omega)).mono ?_
                rintro e v5 ⟨rfl, hg⟩
                have H6 := Lib.hid (And.intro (H5.out.1.kept hg) (And.intro (H5.out.2.1.keep hg) (And.intro (H5.out.2.2.1.kept hg) (grownBy_trans (H5.out.2.2.2) hg))))
                clear hg
                clear bb_0 bb_1 bb_2 bb_l
                by_cases hm1 : m = 1
                · subst hm1
                  have bb_0 := H6.out.2.1.bx.c 0 (x := .int .i64 u) rfl
                  have bb_1 := H6.out.2.1.bx.c 1 (x := .int .i64 n) rfl
                  have bb_2 := H6.out.2.1.bx.c 2 (x := .slice ao l.length co) rfl
                  have bb_l := H6.out.2.1.bx.lt
                  go_wp2_with fail
                  go_ret
                  exact ⟨rfl, below_new (H6.out.2.2.2)⟩
                · have HL := Lib.hid (lost_less HX.out hm1)
                  have bb_0 := H6.out.2.1.bx.c 0 (x := .int .i64 u) rfl
                  have bb_1 := H6.out.2.1.bx.c 1 (x := .int .i64 n) rfl
                  have bb_2 := H6.out.2.1.bx.c 2 (x := .slice ao l.length co) rfl
                  have bb_l := H6.out.2.1.bx.lt
                  go_wp2_with fail
                  refine (lost_impl_as HL.out _ (H6.out.2.1.rg) (by have := HL1.out; omega)).mono ?_
                  rintro e v6 ⟨rfl, hg⟩
                  have H7 := Lib.hid (And.intro (H6.out.1.kept hg) (And.intro (H6.out.2.1.keep hg) (And.intro (H6.out.2.2.1.kept hg) (grownBy_trans (H6.out.2.2.2) hg))))
                  clear hg
                  clear bb_0 bb_1 bb_2 bb_l
                  go_wp2_with fail
                  go_ret
                  exact ⟨rfl, below_new (H7.out.2.2.2)⟩

set_option maxRecDepth 100000 in
theorem lifted (os : Os) (started : os.Started) (H : Type) (enc : TypeId × Value → H) :
    ReturnsInHanded {} Try.checked os 5 .any (Rows.fnLostSpec.pre6 enc Try.prog Try.f5 Rows.fnLostRow.domain false) (Rows.fnLostSpec.post enc Try.prog Try.f5 false true false false) := by
  refine returnsInHanded_of_change (C := Try.checked) own started (by kernel_rfl) Try.func5
    (ChangeSpec.witness6 (enc := enc) (C := Try.checked) false ⟨#[], #[.slice none 0 0], []⟩ 8 (by kernel_rfl) (by kernel_rfl) (by kernel_rfl) (by kernel_rfl)) ?_
  intro W base args ds gs before hval0 hW hcnd _
  have hval : ∀ (j : Nat) t v, Try.f5.params[j]? = some t → args[j]? = some v → Value.okWide Try.prog W .any base t v := hval0
  have hW' := hW
  obtain ⟨p, q, hA0, hV, rfl, hfz, hnd⟩ := hW
  have hA : DataW.TrodAll enc Try.prog W 0 (fun _ => true) true Try.f5.params.toList args.toList ds p := hA0
  rw [Try.params5] at hA hval
  obtain ⟨v0, vs0, d0, ds0, p0, q0, hargs, rfl, rfl, h0, r0⟩ := trodAll_cons hA
  obtain ⟨rfl, rfl, rfl⟩ := trodAll_nil r0
  obtain rfl : args = #[v0] := by cases args; simp_all
  obtain ⟨rfl, rfl⟩ := trodVars_none hV
  have k0 := h0
  have lt0 : ∀ x ∈ p0, x.block < W.heap.size := by obtain ⟨m, hm⟩ := k0; exact DataW.trod_lt m _ _ _ hm
  obtain ⟨a0, len0, cap0, rfl⟩ := okWide_slice Try.underlying22 (hval 0 22 v0 rfl rfl)
  obtain ⟨z0, w0⟩ : ∃ zs, IsRow .u8 W a0 len0 cap0 zs := by
    obtain ⟨fuel, hf⟩ := h0
    rcases open_ints Try.underlying22 Try.underlying5 (by kernel_rfl) hf with ⟨hcs, _⟩ | ⟨x, l, c, zs, hcs, _, hl, hm, hz, _, hcell, hwz⟩
    · simp [Value.cells] at hcs
      obtain ⟨rfl, rfl, rfl⟩ := hcs
      exact ⟨[], .inl ⟨rfl, rfl, rfl, rfl⟩⟩
    · simp [Value.cells] at hcs
      obtain ⟨rfl, rfl, rfl⟩ := hcs
      exact ⟨zs, .inr ⟨_, rfl, hl, hm, by simpa using hz, hcell, hwz⟩⟩
  clear hA0 hval0
  refine (walk a0 len0 cap0 z0 W w0).mono fun e W' ⟨he, bel⟩ => ?_
  subst he
  exact ⟨_, rfl, _, _, _, [], _, [], hW', trodAll_mk1 (shut_bool Try.underlying4 _), (trodAll_cons_mk (Below.trod laidOut (by kernel_rfl) (of_decide_eq_true (by kernel_rfl)) k0 bel lt0) trodAll_mk0), rfl, bel.frame _, fun h => by cases h⟩

theorem over : Rows.fnLostRow.holds Try.pinned (OpenSpec.ofChange Rows.fnLostSpec) :=
  OpenClaim.holds_of_wide 5 Try.f5 rfl rfl rfl rfl rfl rfl rfl ⟨rfl, rfl, rfl, rfl, rfl⟩ rfl rfl rfl rfl rfl (by kernel_rfl) Try.func5 (by kernel_rfl)
    (of_decide_eq_true (by kernel_rfl)) (by unfold Func.isWrapper; first | (rw [if_pos (by decide +kernel)]; kernel_rfl) | (rw [if_neg (by decide +kernel)]; exact ⟨rfl, rfl⟩))
    (fun os started H enc _ => lifted os started H enc)

theorem proved : Rows.FnLostSaid := over
end Go.Proofs.Ytedgfiagefhahaa.fnLost
