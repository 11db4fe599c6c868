/- For every code the law FnFilterAll answers true and leaves its argument as it was; no condition. -/
import Derived.Test.YtljmllmkmjamoaaRows
import Derived.Test.YtljmllmkmjamoaaDraw
import Derived.Test.YtljmllmkmjamoaaFlb
import Derived.WalkKit
import Derived.ProofKit
import Derived.OpenShut
import Derived.ShutString
import Derived.ChangeOld
import Derived.Below
import Derived.Lib.SmallJoins
namespace Go.Proofs.Ytljmllmkmjamoaa.fnFilterAll
open Go.ChangeShapes Go.WideShapes Go.ChangeAt Go.RowKit Go.Joins
open Go.ChangeMaps (open_string shut_string)
set_option linter.unusedVariables false

theorem own : ownKnob Try.prog.godebug = none := by kernel_rfl
theorem laidOut : laidOutB Try.prog = true := by kernel_rfl


def IsRow (k : IntKind) (w : World) (a : Option Addr) (len cap : Nat) (zs : List Int) : Prop :=
  (a = none ∧ len = 0 ∧ cap = 0 ∧ zs = []) ∨
  ∃ x, a = some x ∧ len ≤ cap ∧ cap ≤ maxLen ∧ zs.length = cap ∧ (∀ i, i < zs.length → w.cell? (x.add i) = some (.int k (zs.getD i 0))) ∧ ∀ n ∈ zs, (Lit.int k n).wf = true

structure Fa (w : World) (aa : Option Addr) (ca : Nat) (A : List Rg) (an : Option Addr) (cn : Nat) (now : List Rg) (tv : Value) (tk : List Rg) (W : World) : Prop where
  g : w.grownBy W none
  a : OwnRg W w.heap.size aa ca A
  na : (Value.slice aa A.length ca).ownBlock = none ∨ (Value.slice aa A.length ca).ownBlock ≠ tv.ownBlock
  n : OwnRg W w.heap.size an cn now
  nn : (Value.slice an now.length cn).ownBlock = none ∨ (Value.slice an now.length cn).ownBlock ≠ tv.ownBlock
  t : W.ownsRow w.heap.size 26 2 tv tk.length (rgsV tk)
theorem Fa.keep {w W W' : World} {aa : Option Addr} {ca : Nat} {A : List Rg} {an : Option Addr} {cn : Nat} {now : List Rg} {tv : Value} {tk : List Rg} (h : Fa w aa ca A an cn now tv tk W) (hg : W.grownBy W' none) : Fa w aa ca A an cn now tv tk W' :=
  ⟨grownBy_trans h.g hg, own_kept h.a hg, h.na, own_kept h.n hg, h.nn, own_kept h.t hg⟩
theorem Fa.new {w W W1 : World} {aa : Option Addr} {ca : Nat} {A : List Rg} {an : Option Addr} {cn : Nat} {now : List Rg} {tv : Value} {tk : List Rg} {a1 : Option Addr} {c1 : Nat} {n1 : List Rg} (h : Fa w aa ca A an cn now tv tk W) (hg : W.grownBy W1 none) (ho : OwnRg W1 W.heap.size a1 c1 n1) : Fa w aa ca A a1 c1 n1 tv tk W1 :=
  ⟨grownBy_trans h.g hg, own_kept h.a hg, h.na, own_base ho h.g.size, own_apart2 h.t ho (Nat.le_refl _), own_kept h.t hg⟩
theorem fa_cell {W : World} {B b off c j : Nat} {A : List Rg} {xt xr : Int} (h : OwnRg W B (some ⟨b, off, none⟩) c A) (hlt : j < A.length) (hx : A[j] = (xt, xr)) : W.cell? ⟨b, off + j * 2, none⟩ = some (.int .i64 xt) ∧ W.cell? ⟨b, off + j * 2 + 1, none⟩ = some (.int .i64 xr) := by
  rcases rg_own h with h0 | ⟨b', off', e, _, hc⟩
  · rw [h0] at hlt; simp at hlt
  · cases e
    have := hc j hlt
    rw [hx] at this
    exact this
theorem own_ltZ {w : World} {C X : Nat} {e : TypeId} {v : Value} {m s : Nat} {ys : List Value} (k : w.ownsRow C e s v m ys) (hX : w.heap.size ≤ X) : v.ownBlock = none ∨ v.ownBlock ≠ some X := by
  cases hv : v.ownBlock with
  | none => exact .inl rfl
  | some g =>
    refine .inr fun e => ?_
    cases e
    have h2 := (k.lt X hv).2
    omega
theorem Fa.more {w W W0 W1 : World} {aa : Option Addr} {ca : Nat} {A : List Rg} {an : Option Addr} {cn : Nat} {now : List Rg} {tv tv' : Value} {tk : List Rg} {x : Rg} (h : Fa w aa ca A an cn now tv tk W) (h0 : W.grownBy W0 none) (hg : W0.grownBy W1 tv.ownBlock) (hat : tv'.ownBlock = tv.ownBlock ∨ tv'.ownBlock = some W0.heap.size)
    (ho : W1.ownsRow w.heap.size 26 2 tv' (tk.length + 1) (rgsV tk ++ [.int .i64 x.1, .int .i64 x.2])) : Fa w aa ca A an cn now tv' (tk ++ [x]) W1 := by
  have k := h.keep h0
  refine ⟨grown_row_none k.g hg k.t (Nat.le_refl _), World.ownsRow.kept k.a hg k.na, ?_, World.ownsRow.kept k.n hg k.nn, ?_, ?_⟩
  · rcases hat with e | e
    · rw [e]; exact k.na
    · rw [e]; exact own_ltZ k.a (Nat.le_refl _)
  · rcases hat with e | e
    · rw [e]; exact k.nn
    · rw [e]; exact own_ltZ k.n (Nat.le_refl _)
  · rw [rgsV_snoc, List.length_append]
    exact ho
def OuRel (w : World) (aa : Option Addr) (ca : Nat) (A : List Rg) (d : Int) (s10 s11 s12 : Value) (wr : World) : Prop :=
  ∃ (an : Option Addr) (cn : Nat) (now : List Rg) (at_ : Option Addr) (ct : Nat) (tk : List Rg) (j : Nat), j ≤ A.length ∧ s10 = .slice an now.length cn ∧ s11 = .slice at_ tk.length ct ∧ s12 = .int .i64 j ∧ Fa w aa ca A an cn now (.slice at_ tk.length ct) tk wr ∧ Kept d now tk ∧ tk.length ≤ j ∧ now.length ≤ 100
def InRel (w : World) (c : Int) (tk : List Rg) (s17 s18 : Value) (wr : World) : Prop :=
  ∃ k : Nat, k ≤ tk.length ∧ s18 = .int .i64 k ∧ s17 = .int .i64 (mxF c (tk.take k)) ∧ w.grownBy wr none

set_option maxRecDepth 100000 in
set_option maxHeartbeats 1500000 in
theorem walk (a0 : Option Addr) (len0 cap0 : Nat) (z0 : List Int) (w : World) (w0 : IsRow .u8 w a0 len0 cap0 z0) :
    Calls Try.prog 3 #[.slice a0 len0 cap0] w fun e w' => e = .returned (.bool true) ∧ Below w.heap.size w w' := by
  obtain ⟨i0, hi, hz0, hz1, hz2⟩ := info_of (T := 5) (z := .int .u8 0) (s := 1) (b := 1) (by kernel_rfl)
  obtain ⟨i1, hi1, hy0, hy1, hy2⟩ := info_of (T := 26) (z := .agg #[.int .i64 0, .int .i64 0]) (s := 2) (b := 16) (by kernel_rfl)
  obtain ⟨bs, hbs⟩ := slb_of w0
  have HB := Lib.hid hbs
  have H := Lib.hid (code_of w0)
  clear w0 hbs
  go_enter Try.func3, Try.ntmps3
  go_wp2_with fail
  refine (big_any _ _ _ _).mono ?_
  rintro e w' ⟨rfl, rfl⟩
  by_cases hb : 1048576 < len0
  · rw [decide_eq_true hb]
    go_wp2_with fail
    go_ret
    exact ⟨rfl, below_new (World.grownBy.refl _ _)⟩
  · rw [decide_eq_false hb]
    go_wp2_with fail
    refine (draw_fb2 _ _ _ _ H.out).mono ?_
    rintro e w0 ⟨al, cl, l, t, q, d, rfl, hg, hra, hl⟩
    have hX := Bx.new w0 26 #[.int .i64 t, .int .i64 q]
    have gX := World.grownBy_alloc w0 (.cells #[.int .i64 t, .int .i64 q] 26) none
    have H1 := Lib.hid (And.intro (grownBy_trans hg gX) (And.intro hX (own_kept hra gX)))
    clear hg hra hX gX
    go_upto_region 4 with fail
    generalize w0.alloc (.cells #[.int .i64 t, .int .i64 q] 26) = w1 at *
    generalize w0.heap.size = BX at *
    obtain ⟨y, hy, yb⟩ : ∃ y, IntKind.u8.wrap (len0 : Int) = y ∧ 0 ≤ y ∧ y ≤ 255 := ⟨_, rfl, by simp only [IntKind.wrap, show IntKind.u8.bits = 8 from rfl, show IntKind.u8.signed = false from rfl, Bool.false_and, Bool.false_eq_true, if_false]; omega⟩
    have g1 := World.grownBy_alloc w1 (.cells #[.int .u8 y] 5) none
    have ho1 : (w1.alloc (.cells #[.int .u8 y] 5)).ownsRow w1.heap.size 5 1 (.slice (some ⟨w1.heap.size, 0, none⟩) 1 1) 1 [.int .u8 y] := World.ownsRow_lit w1 #[.int .u8 y] 1 (Nat.le_refl _) (by unfold maxLen; omega) rfl
    have HG1 := Lib.hid (And.intro g1 ho1)
    clear g1 ho1
    go_wp2_with (at_builtin; refine wpList_append_slb rfl _ _ 22 rfl w1.heap.size 5 i0 (.int .u8 0) Try.underlying22 hi hz0 hz1 hz2 rfl _ 1 _ rfl HG1.out.2 _ len0 bs rfl (HB.out.kept (grownBy_trans H1.out.1 HG1.out.1)) (by omega) HG1.out.1.size ?_)
    intro v2 w2 hown hgr
    obtain ⟨a2, c2, rfl⟩ := own_slice hown
    have g2 := grow_own HG1.out.1 hgr HG1.out.2 (Nat.le_refl _)
    have HC := Lib.hid (code_own hown (by
      intro u hu
      rcases List.mem_cons.mp hu with rfl | hu
      · exact ⟨y, yb.1, yb.2, rfl⟩
      · exact HB.out.1 u hu) (by unfold maxLen; omega))
    have H2 := Lib.hid (And.intro (grownBy_trans H1.out.1 g2) (And.intro (H1.out.2.1.keep g2) (own_kept H1.out.2.2 g2)))
    clear hown hgr g2 hy yb HG1 hb
    go_wp2_with fail
    refine (draw_fb2 _ _ _ _ HC.out).mono ?_
    rintro e w3 ⟨am, cm, m, t2, q2, d2, rfl, hg, hrm, hm⟩
    have gX := World.grownBy_alloc w3 (.cells #[.int .i64 t2, .int .i64 q2] 26) none
    have H4 := Lib.hid (And.intro (grownBy_trans H2.out.1 (grownBy_trans hg gX)) (And.intro (H2.out.2.1.keep (grownBy_trans hg gX)) (And.intro (own_kept H2.out.2.2 (grownBy_trans hg gX)) (own_kept hrm gX))))
    clear hg hrm gX H2 H1 HC HB
    go_upto_region 5 with fail
    generalize w3.alloc (.cells #[.int .i64 t2, .int .i64 q2] 26) = w4 at *
    have gE0 := Lib.hid (World.grownBy_alloc w4 (.cells #[] 26) none)
    go_wp2_with (at_builtin; refine wpList_append_slx rfl _ _ 24 rfl w4.heap.size 26 i1 _ 16 Try.underlying24 hi1 hy0 hy1 hy2 rfl _ 0 [] rfl (row_empty w4 _ _ _ (Nat.le_refl _)) _ l rfl ((slx_own H4.out.2.2.1).kept gE0.out) (by unfold maxLen; omega) (by omega) gE0.out.size ?_)
    intro v5 w5 hown5 hgr5
    have H5 := Lib.hid (And.intro (grow_own gE0.out hgr5 (row_empty w4 26 2 _ (Nat.le_refl _)) (Nat.le_refl _)) hown5)
    clear hown5 hgr5
    go_wp2_with (at_builtin; refine wpList_append_slx rfl _ _ 24 rfl w4.heap.size 26 i1 _ 16 Try.underlying24 hi1 hy0 hy1 hy2 rfl _ _ _ rfl H5.out.2 _ m rfl ((slx_own H4.out.2.2.2).kept H5.out.1) (by unfold maxLen; omega) (by omega) H5.out.1.size ?_)
    intro v6 w6 hown6 hgr6
    have H6 := Lib.hid (And.intro (grow_own H5.out.1 hgr6 H5.out.2 (Nat.le_refl _)) hown6)
    clear hown6 hgr6 H5 gE0
    have hx6 := H4.out.2.1.keep H6.out.1
    have x0 := hx6.c 0 rfl
    have x1 := hx6.c 1 rfl
    clear hx6
    go_wp2_with (at_builtin; refine wpList_append_own _ rfl _ _ 24 rfl w4.heap.size 26 i1 _ 2 16 Try.underlying24 hi1 hy0 hy1 hy2 rfl (by decide) _ _ _ rfl ((H6.out.2).alloc _) ⟨w6.heap.size, 0, none⟩ 1 1 [.int .i64 t, .int .i64 q] rfl rfl ?cc1 ?cc2 ?cc3 ?cc4 ?cc5 ?_)
    try (case cc1 => exact pair_new w6 _ _ _ _ rfl)
    case cc2 => simp [Value.oneCell']
    case cc3 => unfold maxLen; omega
    case cc4 => omega
    case cc5 => have := H6.out.1.size; first | (simp; omega) | omega
    intro v7 w7 hown7 hgr7 _
    have g7 := grown_row_none H6.out.1 (grownBy_trans (World.grownBy_alloc w6 (.cells #[.int .i64 t, .int .i64 q] 26) _) hgr7) H6.out.2 (Nat.le_refl _)
    obtain ⟨aa, ca, rfl⟩ := own_slice hown7
    clear x0 x1
    have hA : rgsV (l ++ m ++ [(t, q)]) = rgsV l ++ (rgsV m ++ [.int .i64 t, .int .i64 q]) := by simp [rgsV, rgV, List.flatMap_append]
    have hAl : (l ++ m ++ [(t, q)]).length = l.length + m.length + 1 := by simp; omega
    obtain ⟨A, hAA⟩ : ∃ A, l ++ m ++ [(t, q)] = A := ⟨_, rfl⟩
    rw [hAA] at hA hAl
    rw [← hA, ← hAl] at hown7
    rw [← hAl]
    have hA2 : A.length ≤ 201 := by omega
    have H7 := Lib.hid (And.intro (grownBy_trans H4.out.1 g7) (own_base hown7 H4.out.1.size))
    clear hA hAl hAA hown7 hgr7 g7 H6 H4
    have gN := World.grownBy_alloc w7 (.cells #[] 26) none
    have hN := row_empty w7 26 2 w7.heap.size (Nat.le_refl _)
    have gT := World.grownBy_alloc (w7.alloc (.cells #[] 26)) (.cells #[] 26) none
    have hT := row_empty (w7.alloc (.cells #[] 26)) 26 2 (w7.alloc (.cells #[] 26)).heap.size (Nat.le_refl _)
    have hFa : Fa w aa ca A (some ⟨w7.heap.size, 0, none⟩) 0 [] (.slice (some ⟨(w7.alloc (.cells #[] 26)).heap.size, 0, none⟩) 0 0) [] ((w7.alloc (.cells #[] 26)).alloc (.cells #[] 26)) :=
      ⟨grownBy_trans H7.out.1 (grownBy_trans gN gT), own_kept H7.out.2 (grownBy_trans gN gT), own_apart1 (own_kept H7.out.2 gN) hT (Nat.le_refl _), own_kept (own_base hN H7.out.1.size) gT, own_apart1 hN hT (Nat.le_refl _), own_base hT (Nat.le_trans H7.out.1.size gN.size)⟩
    rw [World.size_alloc] at hFa
    have HFa := Lib.hid hFa
    clear hFa gN hN gT hT
    go_wp2_with fail
    generalize (w7.alloc (.cells #[] 26)).alloc (.cells #[] 26) = w8 at *
    go_loopw [10, 11, 12, 13, 14, 15, 16, 17, 18] (fun s10 s11 s12 s13 s14 s15 s16 s17 s18 wr => OuRel w aa ca A d s10 s11 s12 wr) (fun _ _ i _ _ _ _ _ _ _ => A.length - (intOf i).toNat)
    case atStart => exact ⟨_, 0, [], _, 0, [], 0, Nat.zero_le _, rfl, rfl, rfl, HFa.out, kept_nil d, Nat.le_refl _, by simp⟩
    case round =>
      clear HFa H7
      obtain ⟨an, cn, now, at_, ct, tk, j, hj, rfl, rfl, rfl, hfa, hkp, htl, hnl⟩ := hrel
      have HS := Lib.hid (And.intro hfa hkp)
      clear hfa hkp
      by_cases hlt : j < A.length
      · rcases rg_own HS.out.1.a with h0 | ⟨b, off, rfl, hbb, hc⟩
        · rw [h0] at hlt
          simp at hlt
        · obtain ⟨c0, c1⟩ := hc j hlt
          clear hc hbb
          obtain ⟨⟨xt, xr⟩, hx⟩ : ∃ x, A[j] = x := ⟨_, rfl⟩
          rw [hx] at c0 c1
          have HX := Lib.hid hx
          clear hx
          have hlt' : (j : Int) < (A.length : Int) := by omega
          have hj0 : (0 : Int) ≤ (j : Int) := by omega
          dsimp only at c0 c1
          go_wp2_with fail
          refine (add_impl _ _ _ _ _ _ _ (rg_own HS.out.1.n) (by omega)).mono ?_
          rintro e w10 ⟨a1, c1x, rfl, hg, ho⟩
          have d0 := hg.cell c0 (by simp)
          have d1 := hg.cell c1 (by simp)
          have H10 := Lib.hid (And.intro (HS.out.1.keep hg) (And.intro (HS.out.1.new hg ho) hg))
          clear hg ho c0 c1
          go_wp2_with fail
          refine (add_spec _ _ _ _ _ _ _ (rg_own H10.out.1.n) (by omega)).mono ?_
          rintro e w11 ⟨a2, c2, rfl, hg, ho⟩
          have c0 := hg.cell d0 (by simp)
          have c1 := hg.cell d1 (by simp)
          have H11 := Lib.hid (And.intro (H10.out.1.keep hg) (H10.out.2.1.keep hg))
          have hLL := addL_len now (xt, xr) d
          clear hg ho d0 d1 H10
          cases hok : addOk now (xt, xr) d
          · have HOK := Lib.hid hok
            clear hok
            generalize addL now (xt, xr) d = N1 at *
            go_wp2_with fail
            go_roundw
            case rel => exact ⟨an, cn, now, at_, ct, tk, j + 1, hlt, rfl, rfl, by go_num, H11.out.1, HS.out.2, by omega, hnl⟩
            case measure => simp [intOf]; omega
          · have hP := addOk_of hok
            have hKA := kept_add HS.out.2 hP
            rw [← addL_yes hP] at hKA
            have HKA := Lib.hid hKA
            have hwd : IntKind.i64.wrap (xt - d) = xt - d := by
              have h1 := hP.2.1.1
              have h2 := hP.2.1.2.1
              have h3 := hP.2.2.1
              have h4 := hP.2.2.2.1
              dsimp only at h1 h2
              exact IntWalk.i64_in _ (by omega)
            clear hok hP hKA
            generalize addL now (xt, xr) d = N1 at *
            have gL := Lib.hid (World.grownBy_alloc w11 (.cells #[.int .i64 xt, .int .i64 xr] 26) none)
            go_wp2_with (at_builtin; refine wpList_append_own_at _ rfl _ _ 24 rfl w.heap.size 26 i1 _ 2 16 Try.underlying24 hi1 hy0 hy1 hy2 rfl (by decide) _ _ _ rfl (own_kept H11.out.2.t gL.out) ⟨w11.heap.size, 0, none⟩ 1 1 [.int .i64 xt, .int .i64 xr] rfl rfl ?ca1 ?ca2 ?ca3 ?ca4 ?ca5 ?_)
            try (case ca1 => exact pair_new w11 _ _ _ _ rfl)
            case ca2 => simp [Value.oneCell']
            case ca3 => unfold maxLen; omega
            case ca4 => omega
            case ca5 => exact Nat.le_trans H11.out.2.g.size gL.out.size
            intro v12 w12 hown12 hgr12 _ hat12
            have hF12 := H11.out.2.more (x := (xt, xr)) gL.out hgr12 (by rw [World.size_alloc]; exact hat12) hown12
            obtain ⟨a12, c12, rfl⟩ := own_slice hown12
            obtain ⟨TK, hTK⟩ : ∃ TK, tk ++ [(xt, xr)] = TK := ⟨_, rfl⟩
            have hTL : TK.length = tk.length + 1 := by rw [← hTK]; simp
            have hKA := HKA.out
            rw [hTK] at hF12 hKA
            rw [← hTL] at hF12
            rw [← hTL]
            have H12 := Lib.hid hF12
            have HKT := Lib.hid hKA
            have HTL := Lib.hid hTL
            have hT3 : TK.length ≤ 300 := by omega
            have e0 := (fa_cell H12.out.a hlt HX.out).1
            have hFt : RgAt w12 a12 TK := rg_own H12.out.t
            have HFT := Lib.hid hFt
            clear hF12 hKA hTK hTL hown12 hgr12 hat12 HKA H11 gL c0 c1 hFt
            go_wp2_with fail
            go_loopw [17, 18] (fun s17 s18 wr2 => InRel w12 (xt - d) TK s17 s18 wr2) (fun _ k _ => TK.length - (intOf k).toNat)
            case atStart => exact ⟨0, Nat.zero_le _, rfl, rfl, World.grownBy.refl _ _⟩
            case round =>
              obtain ⟨k, hk2, rfl, rfl, hi2⟩ := hrel
              have HI := Lib.hid hi2
              clear hi2
              by_cases hlt2 : k < TK.length
              · rcases HFT.out.kept HI.out with h0 | ⟨b2, off2, rfl, hb2, hc2⟩
                · rw [h0] at hlt2
                  simp at hlt2
                · obtain ⟨t0, t1⟩ := hc2 k hlt2
                  clear hc2 hb2
                  have HNX := Lib.hid (mxF_next (xt - d) TK k hlt2)
                  have d0 := HI.out.cell e0 (by simp)
                  generalize TK[k] = o at *
                  obtain ⟨f, yv⟩ := o
                  have hk' : (k : Int) < (TK.length : Int) := by omega
                  have hk0 : (0 : Int) ≤ (k : Int) := by omega
                  dsimp only at t0 t1
                  generalize mxF (xt - d) (TK.take k) = mm at *
                  by_cases hf : xt - d < f
                  · have hfd : decide (xt - d < f) = true := decide_eq_true hf
                    rcases Int.lt_trichotomy mm yv with hm1 | hm1 | hm1
                    · have HQ := Lib.hid (show yv = mxF (xt - d) (TK.take (k + 1)) by rw [HNX.out, if_pos hf]; dsimp only; omega)
                      have hm2 : ¬ yv < mm := by omega
                      have hm3 : ¬ yv ≤ mm := by omega
                      have hm4 : max mm yv = yv := by omega
                      go_wp2_with fail
                      go_quiet (fail)
                      go_wp2_with fail
                      go_roundw
                      case rel => exact ⟨k + 1, hlt2, by go_num, by rw [← HQ.out], grownBy_trans HI.out (grownBy_drewN _)⟩
                      case measure => simp [intOf]; omega
                    · have HQ := Lib.hid (show yv = mxF (xt - d) (TK.take (k + 1)) by rw [HNX.out, if_pos hf]; dsimp only; omega)
                      subst hm1
                      go_wp2_with fail
                      go_quiet (fail)
                      go_wp2_with fail
                      go_roundw
                      case rel => exact ⟨k + 1, hlt2, by go_num, by rw [← HQ.out], grownBy_trans HI.out (grownBy_drewN _)⟩
                      case measure => simp [intOf]; omega
                    · have HQ := Lib.hid (show mm = mxF (xt - d) (TK.take (k + 1)) by rw [HNX.out, if_pos hf]; dsimp only; omega)
                      have hm2 : ¬ mm < yv := by omega
                      have hm3 : ¬ mm ≤ yv := by omega
                      have hm4 : max mm yv = mm := by omega
                      go_wp2_with fail
                      go_quiet (fail)
                      go_wp2_with fail
                      go_roundw
                      case rel => exact ⟨k + 1, hlt2, by go_num, by rw [← HQ.out], grownBy_trans HI.out (grownBy_drewN _)⟩
                      case measure => simp [intOf]; omega
                  · have hfd : decide (xt - d < f) = false := decide_eq_false hf
                    have HQ := Lib.hid (show mm = mxF (xt - d) (TK.take (k + 1)) by rw [HNX.out, if_neg hf])
                    go_wp2_with fail
                    go_quiet (fail)
                    go_wp2_with fail
                    go_roundw
                    case rel => exact ⟨k + 1, hlt2, by go_num, by rw [← HQ.out], grownBy_trans HI.out (grownBy_drewN _)⟩
                    case measure => simp [intOf]; omega
              · obtain rfl : k = TK.length := by omega
                rw [List.take_length]
                go_wp2_with fail
                refine (best_impl _ _ _ _ (rg_own (own_kept H12.out.n HI.out)) (by omega)).mono ?_
                rintro e w13 ⟨rfl, hg⟩
                rw [HKT.out.2]
                generalize mxF (xt - d) TK = ZZ at *
                have H13 := Lib.hid (H12.out.keep (grownBy_trans HI.out hg))
                clear hg
                go_wp2_with fail
                go_roundw
                case rel => exact ⟨a1, c1x, N1, a12, c12, TK, j + 1, hlt, rfl, rfl, by go_num, H13.out, HKT.out.1, by have := HTL.out; omega, hLL⟩
                case measure => simp [intOf]; omega
      · obtain rfl : j = A.length := by omega
        go_wp2_with fail
        go_ret
        exact ⟨rfl, below_new HS.out.1.g⟩

set_option maxRecDepth 100000 in
theorem lifted (os : Os) (started : os.Started) (H : Type) (enc : TypeId × Value → H) :
    ReturnsInHanded {} Try.checked os 3 .any (Rows.fnFilterAllSpec.pre6 enc Try.prog Try.f3 Rows.fnFilterAllRow.domain false) (Rows.fnFilterAllSpec.post enc Try.prog Try.f3 false true false false) := by
  refine returnsInHanded_of_change (C := Try.checked) own started (by kernel_rfl) Try.func3
    (ChangeSpec.witness6 (enc := enc) (C := Try.checked) false ⟨#[], #[.slice none 0 0], []⟩ 8 (by kernel_rfl) (by kernel_rfl) (by kernel_rfl) (by kernel_rfl)) ?_
  intro W base args ds gs before hval0 hW hcnd _
  have hval : ∀ (j : Nat) t v, Try.f3.params[j]? = some t → args[j]? = some v → Value.okWide Try.prog W .any base t v := hval0
  have hW' := hW
  obtain ⟨p, q, hA0, hV, rfl, hfz, hnd⟩ := hW
  have hA : DataW.TrodAll enc Try.prog W 0 (fun _ => true) true Try.f3.params.toList args.toList ds p := hA0
  rw [Try.params3] at hA hval
  obtain ⟨v0, vs0, d0, ds0, p0, q0, hargs, rfl, rfl, h0, r0⟩ := trodAll_cons hA
  obtain ⟨rfl, rfl, rfl⟩ := trodAll_nil r0
  obtain rfl : args = #[v0] := by cases args; simp_all
  obtain ⟨rfl, rfl⟩ := trodVars_none hV
  have k0 := h0
  have lt0 : ∀ x ∈ p0, x.block < W.heap.size := by obtain ⟨m, hm⟩ := k0; exact DataW.trod_lt m _ _ _ hm
  obtain ⟨a0, len0, cap0, rfl⟩ := okWide_slice Try.underlying22 (hval 0 22 v0 rfl rfl)
  obtain ⟨z0, w0⟩ : ∃ zs, IsRow .u8 W a0 len0 cap0 zs := by
    obtain ⟨fuel, hf⟩ := h0
    rcases open_ints Try.underlying22 Try.underlying5 (by kernel_rfl) hf with ⟨hcs, _⟩ | ⟨x, l, c, zs, hcs, _, hl, hm, hz, _, hcell, hwz⟩
    · simp [Value.cells] at hcs
      obtain ⟨rfl, rfl, rfl⟩ := hcs
      exact ⟨[], .inl ⟨rfl, rfl, rfl, rfl⟩⟩
    · simp [Value.cells] at hcs
      obtain ⟨rfl, rfl, rfl⟩ := hcs
      exact ⟨zs, .inr ⟨_, rfl, hl, hm, by simpa using hz, hcell, hwz⟩⟩
  clear hA0 hval0
  refine (walk a0 len0 cap0 z0 W w0).mono fun e W' ⟨he, bel⟩ => ?_
  subst he
  exact ⟨_, rfl, _, _, _, [], _, [], hW', trodAll_mk1 (shut_bool Try.underlying4 _), (trodAll_cons_mk (Below.trod laidOut (by kernel_rfl) (of_decide_eq_true (by kernel_rfl)) k0 bel lt0) trodAll_mk0), rfl, bel.frame _, fun h => by cases h⟩

theorem over : Rows.fnFilterAllRow.holds Try.pinned (OpenSpec.ofChange Rows.fnFilterAllSpec) :=
  OpenClaim.holds_of_wide 3 Try.f3 rfl rfl rfl rfl rfl rfl rfl ⟨rfl, rfl, rfl, rfl, rfl⟩ rfl rfl rfl rfl rfl (by kernel_rfl) Try.func3 (by kernel_rfl)
    (of_decide_eq_true (by kernel_rfl)) (by unfold Func.isWrapper; first | (rw [if_pos (by decide +kernel)]; kernel_rfl) | (rw [if_neg (by decide +kernel)]; exact ⟨rfl, rfl⟩))
    (fun os started H enc _ => lifted os started H enc)

theorem proved : Rows.FnFilterAllSaid := over
end Go.Proofs.Ytljmllmkmjamoaa.fnFilterAll
