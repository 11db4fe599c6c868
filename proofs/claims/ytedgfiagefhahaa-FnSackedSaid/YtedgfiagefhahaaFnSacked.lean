/- For every code the law FnSacked answers true and leaves its argument as it was; no condition. -/
import Derived.Test.YtedgfiagefhahaaRows
import Derived.Test.YtedgfiagefhahaaDraw
import Derived.Test.YtedgfiagefhahaaBdB
import Derived.Test.YtedgfiagefhahaaBdI
import Derived.Test.YtedgfiagefhahaaBdU
import Derived.WalkKit
import Derived.ProofKit
import Derived.OpenShut
import Derived.ShutString
import Derived.ChangeOld
import Derived.Below
import Derived.Lib.SmallJoins
namespace Go.Proofs.Ytedgfiagefhahaa.fnSacked
open Go.ChangeShapes Go.WideShapes Go.ChangeAt Go.RowKit Go.Joins
open Go.ChangeMaps (open_string shut_string)
set_option linter.unusedVariables false

theorem own : ownKnob Try.prog.godebug = none := by kernel_rfl
theorem laidOut : laidOutB Try.prog = true := by kernel_rfl


def IsRow (k : IntKind) (w : World) (a : Option Addr) (len cap : Nat) (zs : List Int) : Prop :=
  (a = none ∧ len = 0 ∧ cap = 0 ∧ zs = []) ∨
  ∃ x, a = some x ∧ len ≤ cap ∧ cap ≤ maxLen ∧ zs.length = cap ∧ (∀ i, i < zs.length → w.cell? (x.add i) = some (.int k (zs.getD i 0))) ∧ ∀ n ∈ zs, (Lit.int k n).wf = true

theorem sacked_as {u n p : Int} {a : Option Addr} {c : Nat} {l : List Rg} {x : Bool} (hx : inL l p = x) (W : World) (h : RgAt W a l) (hl : l.length ≤ 1048576) : Calls Try.prog 20 #[bdV u n a l.length c, .int .i64 p] W fun e w' => e = .returned (.bool x) ∧ W.grownBy w' none := by
  have k := sacked_any u n a c l p W h hl
  rw [hx] at k
  exact k
theorem s12 {w u v : World} {Bn Bw Bf Bb : Nat} {x0 x1 x2 x3 x4 x5 x6 x7 x8 x9 x10 x11 : Value} (h : u.cell? ⟨Bn, 0, none⟩ = some x0 ∧ u.cell? ⟨Bn, 1, none⟩ = some x1 ∧ u.cell? ⟨Bn, 2, none⟩ = some x2 ∧ u.cell? ⟨Bw, 0, none⟩ = some x3 ∧ u.cell? ⟨Bw, 1, none⟩ = some x4 ∧ u.cell? ⟨Bw, 2, none⟩ = some x5 ∧ u.cell? ⟨Bf, 0, none⟩ = some x6 ∧ u.cell? ⟨Bf, 1, none⟩ = some x7 ∧ u.cell? ⟨Bf, 2, none⟩ = some x8 ∧ u.cell? ⟨Bb, 0, none⟩ = some x9 ∧ u.cell? ⟨Bb, 1, none⟩ = some x10 ∧ u.cell? ⟨Bb, 2, none⟩ = some x11 ∧ w.grownBy u none) (hg : u.grownBy v none) : v.cell? ⟨Bn, 0, none⟩ = some x0 ∧ v.cell? ⟨Bn, 1, none⟩ = some x1 ∧ v.cell? ⟨Bn, 2, none⟩ = some x2 ∧ v.cell? ⟨Bw, 0, none⟩ = some x3 ∧ v.cell? ⟨Bw, 1, none⟩ = some x4 ∧ v.cell? ⟨Bw, 2, none⟩ = some x5 ∧ v.cell? ⟨Bf, 0, none⟩ = some x6 ∧ v.cell? ⟨Bf, 1, none⟩ = some x7 ∧ v.cell? ⟨Bf, 2, none⟩ = some x8 ∧ v.cell? ⟨Bb, 0, none⟩ = some x9 ∧ v.cell? ⟨Bb, 1, none⟩ = some x10 ∧ v.cell? ⟨Bb, 2, none⟩ = some x11 ∧ w.grownBy v none := by
  obtain ⟨h0, h1, h2, h3, h4, h5, h6, h7, h8, h9, h10, h11, hh⟩ := h
  exact ⟨hg.cell h0 (by simp), hg.cell h1 (by simp), hg.cell h2 (by simp), hg.cell h3 (by simp), hg.cell h4 (by simp), hg.cell h5 (by simp), hg.cell h6 (by simp), hg.cell h7 (by simp), hg.cell h8 (by simp), hg.cell h9 (by simp), hg.cell h10 (by simp), hg.cell h11 (by simp), grownBy_trans hh hg⟩
set_option maxRecDepth 100000 in
theorem draw_bfl (a : Option Addr) (n0 c : Nat) (w : World) (h : CodeIn w a n0) : Calls Try.prog 24 #[.slice a n0 c] w (Db0Post w) := by
  have H := Lib.hid h
  clear h
  go_enter Try.func24, Try.ntmps24
  go_wp2_with fail
  refine (draw_bok _ _ _ _ (H.out.kept (World.grownBy_alloc _ _ _))).mono ?_
  rintro e w2 ⟨u, n, ao, cc, l, rfl, hd⟩
  have hrow := hd.row
  simp only [World.size_alloc] at hrow
  have HD := Lib.hid (And.intro (show 0 ≤ u ∧ u ≤ 1000000000 ∧ l.length ≤ 40 ∧ (Lit.int .i64 n).wf = true ∧ Fi u n l from ⟨hd.u0, hd.u1, hd.ll, hd.wn, hd.fi⟩) (And.intro (grownBy_trans (World.grownBy_alloc w (.cells #[.int .i64 0, .int .i64 0, .slice none 0 0] 26) none) hd.g) (And.intro hrow ((Bx.new w 26 #[.int .i64 0, .int .i64 0, .slice none 0 0]).keep hd.g))))
  clear hd hrow
  have z0 := HD.out.2.2.2.c 0 (x := .int .i64 0) rfl
  have z1 := HD.out.2.2.2.c 1 (x := .int .i64 0) rfl
  have z2 := HD.out.2.2.2.c 2 (x := .slice none 0 0) rfl
  have x0 := HD.out.2.2.2.f 0
  have x1 := HD.out.2.2.2.f 1
  have x2 := HD.out.2.2.2.f 2
  go_wp2_with fail
  exact bodyPost_ret (v := .agg #[.int .i64 u, .int .i64 n, .slice ao l.length cc]) (by simp [results, Try.results24, go_sem, z0, z1, z2]) rfl ⟨u, n, ao, cc, l, rfl, Dbd.done HD.out.1 HD.out.2.1 HD.out.2.2.1⟩
theorem sack_len {u n U N : Int} {l ms L : List Rg} {D : Bool} (h : sackL u n l ms = (U, N, L, D)) : L.length ≤ 1048576 := by
  have k := sackL_len u n l ms
  rw [h] at k
  exact Nat.le_trans k (by decide)
theorem bd_yes_impl {u n : Int} {a : Option Addr} {c : Nat} {l : List Rg} (hb : bdOk u n l = true) (W : World) (h : RgAt W a l) : Calls Try.prog 17 #[bdV u n a l.length c] W fun e w' => e = .returned (.bool true) ∧ W.grownBy w' none := by
  have k := bd_ok_impl u n a c l W h
  rw [hb] at k
  exact k
theorem flight_at {u n x : Int} {a : Option Addr} {c : Nat} {l : List Rg} (hf : flightL u n l = x) (W : World) (h : RgAt W a l) : Calls Try.prog 19 #[bdV u n a l.length c] W fun e w' => e = .returned (.int .i64 x) ∧ W.grownBy w' none := by
  have k := flight_impl u n a c l W h
  rw [hf] at k
  exact k
theorem flightS_at {u n x : Int} {a : Option Addr} {c : Nat} {l : List Rg} (hf : flightL u n l = x) (W : World) (h : RgAt W a l) (hl : l.length ≤ 9223372036854775807) : Calls Try.prog 25 #[bdV u n a l.length c] W fun e w' => e = .returned (.int .i64 x) ∧ W.grownBy w' none := by
  have k := flight_spec u n a c l W h hl
  rw [hf] at k
  exact k
theorem cnt_bd (l : List Rg) (a : Int) : ∀ k : Nat, 0 ≤ cntL l a k ∧ cntL l a k ≤ k
  | 0 => ⟨Int.le_refl _, Int.le_refl _⟩
  | k + 1 => by
    have h := cnt_bd l a k
    rw [cntL]
    split <;> omega
theorem told_next (u n : Int) (t : List Rg) (q : Int) (j : Nat) (h : j < t.length) : toldL u n (t.take (j + 1)) q = (toldL u n (t.take j) q || decide (rg1 u n t[j] ∧ (t[j]).1 ≤ q ∧ q < (t[j]).2)) := by
  unfold toldL
  rw [List.take_succ_eq_append_getElem h, List.any_append]
  simp
def SoRel (w : World) (L : List Rg) (u n : Int) (v i : Value) (wr : World) : Prop := ∃ k : Nat, i = .int .i64 (u + k) ∧ v = .int .i64 ((k : Int) - cntL L u k) ∧ u + k ≤ n ∧ w.grownBy wr none
def SiRel (w : World) (y : Bool) (u n : Int) (t : List Rg) (q : Int) (v i : Value) (wr : World) : Prop := ∃ j : Nat, j ≤ t.length ∧ i = .int .i64 j ∧ v = .bool (y || toldL u n (t.take j) q) ∧ w.grownBy wr none

set_option maxRecDepth 100000 in
set_option maxHeartbeats 60000000 in
theorem walk (a0 : Option Addr) (len0 cap0 : Nat) (z0 : List Int) (w : World) (w0 : IsRow .u8 w a0 len0 cap0 z0) :
    Calls Try.prog 4 #[.slice a0 len0 cap0] w fun e w' => e = .returned (.bool true) ∧ Below w.heap.size w w' := by
  have hc := code_of w0
  clear w0
  have HC := Lib.hid hc
  clear hc
  by_cases hbig : 1048576 < len0
  · go_enter Try.func4, Try.ntmps4
    go_wp2_with (go_at_call 8; refine (big_any _ _ _ _).mono ?_; rintro e w' ⟨rfl, rfl⟩)
    go_ret
    exact ⟨rfl, Below.refl _ _⟩
  · go_enter Try.func4, Try.ntmps4
    go_wp2_with (go_at_call 8; refine (big_any _ _ _ _).mono ?_; rintro e w' ⟨rfl, rfl⟩)
    have H0 := Lib.hid (And.intro HC.out (World.grownBy.refl w none))
    go_wp2_with fail
    refine (draw_bsack _ _ _ _ H0.out.1).mono ?_
    rintro e v0 ⟨u, n, ao, co, l, tb, tc, t, rfl, htl, htc, htm, hd, hto⟩
    have hg := hd.g
    have hrow := hd.row.at
    have hro := own_rowOk hd.row
    have HL1 := Lib.hid hd.ll
    have HF1 := Lib.hid hd.fi
    have hrt := OwnRg.at hto
    have HTL := Lib.hid htl
    clear hd hto htl htc htm
    have H1 := Lib.hid (And.intro ((H0.out.1.kept hg).kept (World.grownBy_alloc v0 (.cells #[.int .i64 u, .int .i64 n, .slice ao l.length co] 26) none)) (And.intro (BB.new v0 (u := u) (n := n) (c := co) hrow) (And.intro ((hro).kept (World.grownBy_alloc v0 (.cells #[.int .i64 u, .int .i64 n, .slice ao l.length co] 26) none)) (And.intro ((hrt).kept (World.grownBy_alloc v0 (.cells #[.int .i64 u, .int .i64 n, .slice ao l.length co] 26) none)) (gA (grownBy_trans (H0.out.2) hg) (.cells #[.int .i64 u, .int .i64 n, .slice ao l.length co] 26))))))
    clear hg hrow hro hrt
    go_upto_region 4 with fail
    generalize v0.heap.size = Bb at *
    generalize v0.alloc (.cells #[.int .i64 u, .int .i64 n, .slice ao l.length co] 26) = v0a at *
    obtain ⟨⟨U, N, L, D⟩, hR⟩ : ∃ R, R = sackL u n l t := ⟨_, rfl⟩
    have HR := Lib.hid hR.symm
    clear hR
    have bb_0 := H1.out.2.1.bx.c 0 (x := .int .i64 u) rfl
    have bb_1 := H1.out.2.1.bx.c 1 (x := .int .i64 n) rfl
    have bb_2 := H1.out.2.1.bx.c 2 (x := .slice ao l.length co) rfl
    have bb_l := H1.out.2.1.bx.lt
    go_wp2_with fail
    refine ((sack_impl u n ao co l _ tc t _ H1.out.2.2.1 H1.out.2.2.2.1 (by have := HTL.out; omega)).mono fun _ _ hh => bd_four HR.out hh).mono ?_
    rintro e v1 ⟨p1, q1, rfl, hg, ho⟩
    have hrow := ho.at
    clear ho
    have H2 := Lib.hid (And.intro ((H1.out.1.kept hg).kept (World.grownBy_alloc v1 (.cells #[.int .i64 U, .int .i64 N, .slice p1 L.length q1] 26) none)) (And.intro ((H1.out.2.1.keep hg).keep (World.grownBy_alloc v1 (.cells #[.int .i64 U, .int .i64 N, .slice p1 L.length q1] 26) none)) (And.intro ((H1.out.2.2.1.kept hg).kept (World.grownBy_alloc v1 (.cells #[.int .i64 U, .int .i64 N, .slice p1 L.length q1] 26) none)) (And.intro ((H1.out.2.2.2.1.kept hg).kept (World.grownBy_alloc v1 (.cells #[.int .i64 U, .int .i64 N, .slice p1 L.length q1] 26) none)) (And.intro (BB.new v1 (u := U) (n := N) (c := q1) hrow) (gA (grownBy_trans (H1.out.2.2.2.2) hg) (.cells #[.int .i64 U, .int .i64 N, .slice p1 L.length q1] 26)))))))
    clear hg hrow
    clear bb_0 bb_1 bb_2 bb_l
    go_upto_region 5 with fail
    generalize v1.heap.size = Bn at *
    generalize v1.alloc (.cells #[.int .i64 U, .int .i64 N, .slice p1 L.length q1] 26) = v1a at *
    have bb_0 := H2.out.2.1.bx.c 0 (x := .int .i64 u) rfl
    have bb_1 := H2.out.2.1.bx.c 1 (x := .int .i64 n) rfl
    have bb_2 := H2.out.2.1.bx.c 2 (x := .slice ao l.length co) rfl
    have bb_l := H2.out.2.1.bx.lt
    go_wp2_with fail
    refine ((sack_spec u n ao co l _ tc t _ H2.out.2.2.1 (by have := HL1.out; omega) H2.out.2.2.2.1 (by have := HTL.out; omega)).mono fun _ _ hh => bd_four HR.out hh).mono ?_
    rintro e v2 ⟨p2, q2, rfl, hg, ho⟩
    have hrow := ho.at
    clear ho
    have H3 := Lib.hid (And.intro ((H2.out.1.kept hg).kept (World.grownBy_alloc v2 (.cells #[.int .i64 U, .int .i64 N, .slice p2 L.length q2] 26) none)) (And.intro ((H2.out.2.1.keep hg).keep (World.grownBy_alloc v2 (.cells #[.int .i64 U, .int .i64 N, .slice p2 L.length q2] 26) none)) (And.intro ((H2.out.2.2.1.kept hg).kept (World.grownBy_alloc v2 (.cells #[.int .i64 U, .int .i64 N, .slice p2 L.length q2] 26) none)) (And.intro ((H2.out.2.2.2.1.kept hg).kept (World.grownBy_alloc v2 (.cells #[.int .i64 U, .int .i64 N, .slice p2 L.length q2] 26) none)) (And.intro ((H2.out.2.2.2.2.1.keep hg).keep (World.grownBy_alloc v2 (.cells #[.int .i64 U, .int .i64 N, .slice p2 L.length q2] 26) none)) (And.intro (BB.new v2 (u := U) (n := N) (c := q2) hrow) (gA (grownBy_trans (H2.out.2.2.2.2.2) hg) (.cells #[.int .i64 U, .int .i64 N, .slice p2 L.length q2] 26))))))))
    clear hg hrow
    clear bb_0 bb_1 bb_2 bb_l
    go_upto_region 6 with fail
    generalize v2.heap.size = Bw at *
    generalize v2.alloc (.cells #[.int .i64 U, .int .i64 N, .slice p2 L.length q2] 26) = v2a at *
    go_wp2_with fail
    refine (draw_bfl _ _ _ _ H3.out.1).mono ?_
    rintro e v3 ⟨y3, m3, ao3, co3, l3, rfl, hd⟩
    have hg := hd.g
    have hrow := hd.row.at
    have HL3 := Lib.hid hd.ll
    clear hd
    have H4 := Lib.hid (And.intro ((H3.out.1.kept hg).kept (World.grownBy_alloc v3 (.cells #[.int .i64 y3, .int .i64 m3, .slice ao3 l3.length co3] 26) none)) (And.intro ((H3.out.2.1.keep hg).keep (World.grownBy_alloc v3 (.cells #[.int .i64 y3, .int .i64 m3, .slice ao3 l3.length co3] 26) none)) (And.intro ((H3.out.2.2.1.kept hg).kept (World.grownBy_alloc v3 (.cells #[.int .i64 y3, .int .i64 m3, .slice ao3 l3.length co3] 26) none)) (And.intro ((H3.out.2.2.2.1.kept hg).kept (World.grownBy_alloc v3 (.cells #[.int .i64 y3, .int .i64 m3, .slice ao3 l3.length co3] 26) none)) (And.intro ((H3.out.2.2.2.2.1.keep hg).keep (World.grownBy_alloc v3 (.cells #[.int .i64 y3, .int .i64 m3, .slice ao3 l3.length co3] 26) none)) (And.intro ((H3.out.2.2.2.2.2.1.keep hg).keep (World.grownBy_alloc v3 (.cells #[.int .i64 y3, .int .i64 m3, .slice ao3 l3.length co3] 26) none)) (And.intro (BB.new v3 (u := y3) (n := m3) (c := co3) hrow) (gA (grownBy_trans (H3.out.2.2.2.2.2.2) hg) (.cells #[.int .i64 y3, .int .i64 m3, .slice ao3 l3.length co3] 26)))))))))
    clear hg hrow
    go_upto_region 7 with fail
    generalize v3.heap.size = Bf at *
    generalize v3.alloc (.cells #[.int .i64 y3, .int .i64 m3, .slice ao3 l3.length co3] 26) = v3a at *
    obtain ⟨Z, hZ⟩ : ∃ Z : Int, flightL y3 m3 l3 = Z := ⟨_, rfl⟩
    have HZ := Lib.hid hZ
    clear hZ
    have hzz : (Z != Z) = false := by simp
    have hze : (Z == Z) = true := by simp
    cases D
    · go_cut [62] (fun sx wx => sx = .bool true ∧ v3a.grownBy wx none)
      case first =>
        have bb_0 := H4.out.2.1.bx.c 0 (x := .int .i64 u) rfl
        have bb_1 := H4.out.2.1.bx.c 1 (x := .int .i64 n) rfl
        have bb_2 := H4.out.2.1.bx.c 2 (x := .slice ao l.length co) rfl
        have bb_l := H4.out.2.1.bx.lt
        have bn_0 := H4.out.2.2.2.2.1.bx.c 0 (x := .int .i64 U) rfl
        have bn_1 := H4.out.2.2.2.2.1.bx.c 1 (x := .int .i64 N) rfl
        have bn_2 := H4.out.2.2.2.2.1.bx.c 2 (x := .slice p1 L.length q1) rfl
        have bn_l := H4.out.2.2.2.2.1.bx.lt
        have bw_0 := H4.out.2.2.2.2.2.1.bx.c 0 (x := .int .i64 U) rfl
        have bw_1 := H4.out.2.2.2.2.2.1.bx.c 1 (x := .int .i64 N) rfl
        have bw_2 := H4.out.2.2.2.2.2.1.bx.c 2 (x := .slice p2 L.length q2) rfl
        have bw_l := H4.out.2.2.2.2.2.1.bx.lt
        have bf_0 := H4.out.2.2.2.2.2.2.1.bx.c 0 (x := .int .i64 y3) rfl
        have bf_1 := H4.out.2.2.2.2.2.2.1.bx.c 1 (x := .int .i64 m3) rfl
        have bf_2 := H4.out.2.2.2.2.2.2.1.bx.c 2 (x := .slice ao3 l3.length co3) rfl
        have bf_l := H4.out.2.2.2.2.2.2.1.bx.lt
        have hcj : v3a.drew.cell? ⟨Bn, 0, none⟩ = some (.int .i64 U) ∧ v3a.drew.cell? ⟨Bn, 1, none⟩ = some (.int .i64 N) ∧ v3a.drew.cell? ⟨Bn, 2, none⟩ = some (.slice p1 L.length q1) ∧ v3a.drew.cell? ⟨Bw, 0, none⟩ = some (.int .i64 U) ∧ v3a.drew.cell? ⟨Bw, 1, none⟩ = some (.int .i64 N) ∧ v3a.drew.cell? ⟨Bw, 2, none⟩ = some (.slice p2 L.length q2) ∧ v3a.drew.cell? ⟨Bf, 0, none⟩ = some (.int .i64 y3) ∧ v3a.drew.cell? ⟨Bf, 1, none⟩ = some (.int .i64 m3) ∧ v3a.drew.cell? ⟨Bf, 2, none⟩ = some (.slice ao3 l3.length co3) ∧ v3a.drew.cell? ⟨Bb, 0, none⟩ = some (.int .i64 u) ∧ v3a.drew.cell? ⟨Bb, 1, none⟩ = some (.int .i64 n) ∧ v3a.drew.cell? ⟨Bb, 2, none⟩ = some (.slice ao l.length co) ∧ v3a.grownBy v3a.drew none := ⟨bn_0, bn_1, bn_2, bw_0, bw_1, bw_2, bf_0, bf_1, bf_2, bb_0, bb_1, bb_2, grownBy_drew⟩
        refine wp_region_held_drew (S := fun w' => w'.cell? ⟨Bn, 0, none⟩ = some (.int .i64 U) ∧ w'.cell? ⟨Bn, 1, none⟩ = some (.int .i64 N) ∧ w'.cell? ⟨Bn, 2, none⟩ = some (.slice p1 L.length q1) ∧ w'.cell? ⟨Bw, 0, none⟩ = some (.int .i64 U) ∧ w'.cell? ⟨Bw, 1, none⟩ = some (.int .i64 N) ∧ w'.cell? ⟨Bw, 2, none⟩ = some (.slice p2 L.length q2) ∧ w'.cell? ⟨Bf, 0, none⟩ = some (.int .i64 y3) ∧ w'.cell? ⟨Bf, 1, none⟩ = some (.int .i64 m3) ∧ w'.cell? ⟨Bf, 2, none⟩ = some (.slice ao3 l3.length co3) ∧ w'.cell? ⟨Bb, 0, none⟩ = some (.int .i64 u) ∧ w'.cell? ⟨Bb, 1, none⟩ = some (.int .i64 n) ∧ w'.cell? ⟨Bb, 2, none⟩ = some (.slice ao l.length co) ∧ v3a.grownBy w' none) (by kernel_rfl) (by exact hcj) (fun hS => ?_)
        clear hcj
        refine wpAnyH_take (i := 0) (v := .bool false) rfl (by kernel_rfl) (by kernel_rfl) (by kernel_rfl) (fun _ _ _ h => h) (Or.inl ⟨by kernel_rfl, ?_⟩) hS ?_
        · intro w' hSw
          obtain ⟨g0, g1, g2, g3, g4, g5, g6, g7, g8, g9, g10, g11, _⟩ := hSw
          go_simp
        simp only [List.getElem_toArray, List.getElem_cons_zero, Act.put, List.setIfInBounds_toArray, List.set_cons_zero, List.set_cons_succ]
        refine wpAnyH_take (i := 1) (v := .bool false) rfl (by kernel_rfl) (by kernel_rfl) (by kernel_rfl) (fun _ _ _ h => h) (Or.inl ⟨by kernel_rfl, ?_⟩) hS ?_
        · intro w' hSw
          obtain ⟨g0, g1, g2, g3, g4, g5, g6, g7, g8, g9, g10, g11, _⟩ := hSw
          go_simp
        simp only [List.getElem_toArray, List.getElem_cons_zero, List.getElem_cons_succ, Act.put, List.setIfInBounds_toArray, List.set_cons_zero, List.set_cons_succ]
        refine wpAnyH_take (i := 2) (v := .bool false) rfl (by kernel_rfl) (by kernel_rfl) (by kernel_rfl) (fun _ _ _ h => h) (Or.inl ⟨by kernel_rfl, ?_⟩) hS ?_
        · intro w' hSw
          obtain ⟨g0, g1, g2, g3, g4, g5, g6, g7, g8, g9, g10, g11, _⟩ := hSw
          go_simp
        simp only [List.getElem_toArray, List.getElem_cons_zero, List.getElem_cons_succ, Act.put, List.setIfInBounds_toArray, List.set_cons_zero, List.set_cons_succ]
        refine wpAnyH_take (i := 3) (v := .bool false) rfl (by kernel_rfl) (by kernel_rfl) (by kernel_rfl) (fun _ _ _ h => h) (Or.inl ⟨by kernel_rfl, ?_⟩) hS ?_
        · intro w' hSw
          obtain ⟨g0, g1, g2, g3, g4, g5, g6, g7, g8, g9, g10, g11, _⟩ := hSw
          go_simp
        simp only [List.getElem_toArray, List.getElem_cons_zero, List.getElem_cons_succ, Act.put, List.setIfInBounds_toArray, List.set_cons_zero, List.set_cons_succ]
        refine wpAnyH_take (i := 4) (v := .agg #[.int .i64 U, .int .i64 N, .slice p1 L.length q1]) rfl (by kernel_rfl) (by kernel_rfl) (by kernel_rfl) (fun _ _ _ h => h) (Or.inl ⟨by kernel_rfl, ?_⟩) hS ?_
        · intro w' hSw
          obtain ⟨g0, g1, g2, g3, g4, g5, g6, g7, g8, g9, g10, g11, _⟩ := hSw
          go_simp
        simp only [List.getElem_toArray, List.getElem_cons_zero, List.getElem_cons_succ, Act.put, List.setIfInBounds_toArray, List.set_cons_zero, List.set_cons_succ]
        refine wpAnyH_take (i := 5) (v := .agg #[.int .i64 U, .int .i64 N, .slice p2 L.length q2]) rfl (by kernel_rfl) (by kernel_rfl) (by kernel_rfl) (fun _ _ _ h => h) (Or.inl ⟨by kernel_rfl, ?_⟩) hS ?_
        · intro w' hSw
          obtain ⟨g0, g1, g2, g3, g4, g5, g6, g7, g8, g9, g10, g11, _⟩ := hSw
          go_simp
        simp only [List.getElem_toArray, List.getElem_cons_zero, List.getElem_cons_succ, Act.put, List.setIfInBounds_toArray, List.set_cons_zero, List.set_cons_succ]
        refine wpAnyH_ready (rs := [6]) (by kernel_rfl) (List.cons_ne_nil _ _) ?_
        refine AllReadyH.cons rfl (fun K hK => ?_) AllReadyH.nil
        go_simp
        go_at_call 16
        refine (same_board U N p1 p2 q1 q2 L _ ((H4.out.2.2.2.2.1.rg.kept (hS.2.2.2.2.2.2.2.2.2.2.2.2))) ((H4.out.2.2.2.2.2.1.rg.kept (hS.2.2.2.2.2.2.2.2.2.2.2.2))) (sack_len HR.out)).mono ?_
        rintro e w9 ⟨rfl, hg⟩
        refine hK.out _ _ (s12 hS hg) (fun hS => ?_)
        clear hK K hg
        try simp only [List.getElem_toArray, List.getElem_cons_zero, List.getElem_cons_succ, Act.put, List.setIfInBounds_toArray, List.set_cons_zero, List.set_cons_succ]
        refine wpAnyH_take (i := 7) (v := .bool false) rfl (by kernel_rfl) (by kernel_rfl) (by kernel_rfl) (fun _ _ _ h => h) (Or.inl ⟨by kernel_rfl, ?_⟩) hS ?_
        · intro w' hSw
          obtain ⟨g0, g1, g2, g3, g4, g5, g6, g7, g8, g9, g10, g11, _⟩ := hSw
          go_simp
        simp only [List.getElem_toArray, List.getElem_cons_zero, List.getElem_cons_succ, Act.put, List.setIfInBounds_toArray, List.set_cons_zero, List.set_cons_succ]
        refine wpAnyH_take (i := 8) (v := .bool false) rfl (by kernel_rfl) (by kernel_rfl) (by kernel_rfl) (fun _ _ _ h => h) (Or.inl ⟨by kernel_rfl, ?_⟩) hS ?_
        · intro w' hSw
          obtain ⟨g0, g1, g2, g3, g4, g5, g6, g7, g8, g9, g10, g11, _⟩ := hSw
          go_simp
        simp only [List.getElem_toArray, List.getElem_cons_zero, List.getElem_cons_succ, Act.put, List.setIfInBounds_toArray, List.set_cons_zero, List.set_cons_succ]
        refine wpAnyH_take (i := 9) (v := .bool false) rfl (by kernel_rfl) (by kernel_rfl) (by kernel_rfl) (fun _ _ _ h => h) (Or.inl ⟨by kernel_rfl, ?_⟩) hS ?_
        · intro w' hSw
          obtain ⟨g0, g1, g2, g3, g4, g5, g6, g7, g8, g9, g10, g11, _⟩ := hSw
          go_simp
        simp only [List.getElem_toArray, List.getElem_cons_zero, List.getElem_cons_succ, Act.put, List.setIfInBounds_toArray, List.set_cons_zero, List.set_cons_succ]
        refine wpAnyH_take (i := 10) (v := .agg #[.int .i64 y3, .int .i64 m3, .slice ao3 l3.length co3]) rfl (by kernel_rfl) (by kernel_rfl) (by kernel_rfl) (fun _ _ _ h => h) (Or.inl ⟨by kernel_rfl, ?_⟩) hS ?_
        · intro w' hSw
          obtain ⟨g0, g1, g2, g3, g4, g5, g6, g7, g8, g9, g10, g11, _⟩ := hSw
          go_simp
        simp only [List.getElem_toArray, List.getElem_cons_zero, List.getElem_cons_succ, Act.put, List.setIfInBounds_toArray, List.set_cons_zero, List.set_cons_succ]
        refine wpAnyH_take (i := 12) (v := .agg #[.int .i64 y3, .int .i64 m3, .slice ao3 l3.length co3]) rfl (by kernel_rfl) (by kernel_rfl) (by kernel_rfl) (fun _ _ _ h => h) (Or.inl ⟨by kernel_rfl, ?_⟩) hS ?_
        · intro w' hSw
          obtain ⟨g0, g1, g2, g3, g4, g5, g6, g7, g8, g9, g10, g11, _⟩ := hSw
          go_simp
        simp only [List.getElem_toArray, List.getElem_cons_zero, List.getElem_cons_succ, Act.put, List.setIfInBounds_toArray, List.set_cons_zero, List.set_cons_succ]
        refine wpAnyH_ready (rs := [11]) (by kernel_rfl) (List.cons_ne_nil _ _) ?_
        refine AllReadyH.cons rfl (fun K hK => ?_) AllReadyH.nil
        go_simp
        go_at_call 19
        refine (flight_at HZ.out _ ((H4.out.2.2.2.2.2.2.1.rg.kept (hS.2.2.2.2.2.2.2.2.2.2.2.2)))).mono ?_
        rintro e w9 ⟨rfl, hg⟩
        refine hK.out _ _ (s12 hS hg) (fun hS => ?_)
        clear hK K hg
        try simp only [List.getElem_toArray, List.getElem_cons_zero, List.getElem_cons_succ, Act.put, List.setIfInBounds_toArray, List.set_cons_zero, List.set_cons_succ]
        refine wpAnyH_ready (rs := [13]) (by kernel_rfl) (List.cons_ne_nil _ _) ?_
        refine AllReadyH.cons rfl (fun K hK => ?_) AllReadyH.nil
        go_simp
        go_at_call 25
        refine (flightS_at HZ.out _ ((H4.out.2.2.2.2.2.2.1.rg.kept (hS.2.2.2.2.2.2.2.2.2.2.2.2))) (by have := HL3.out; omega)).mono ?_
        rintro e w9 ⟨rfl, hg⟩
        refine hK.out _ _ (s12 hS hg) (fun hS => ?_)
        clear hK K hg
        try simp only [List.getElem_toArray, List.getElem_cons_zero, List.getElem_cons_succ, Act.put, List.setIfInBounds_toArray, List.set_cons_zero, List.set_cons_succ]
        refine wpAnyH_take (i := 14) (v := .bool false) rfl (by kernel_rfl) (by kernel_rfl) (by kernel_rfl) (fun _ _ _ h => h) (Or.inl ⟨by kernel_rfl, ?_⟩) hS ?_
        · intro w' hSw
          obtain ⟨g0, g1, g2, g3, g4, g5, g6, g7, g8, g9, g10, g11, _⟩ := hSw
          go_simp
        simp only [List.getElem_toArray, List.getElem_cons_zero, List.getElem_cons_succ, Act.put, List.setIfInBounds_toArray, List.set_cons_zero, List.set_cons_succ]
        refine wpAnyH_take (i := 15) (v := .bool false) rfl (by kernel_rfl) (by kernel_rfl) (by kernel_rfl) (fun _ _ _ h => h) (Or.inl ⟨by kernel_rfl, ?_⟩) hS ?_
        · intro w' hSw
          obtain ⟨g0, g1, g2, g3, g4, g5, g6, g7, g8, g9, g10, g11, _⟩ := hSw
          go_simp
        simp only [List.getElem_toArray, List.getElem_cons_zero, List.getElem_cons_succ, Act.put, List.setIfInBounds_toArray, List.set_cons_zero, List.set_cons_succ]
        refine wpAnyH_take (i := 16) (v := .bool false) rfl (by kernel_rfl) (by kernel_rfl) (by kernel_rfl) (fun _ _ _ h => h) (Or.inl ⟨by kernel_rfl, ?_⟩) hS ?_
        · intro w' hSw
          obtain ⟨g0, g1, g2, g3, g4, g5, g6, g7, g8, g9, g10, g11, _⟩ := hSw
          go_simp
        simp only [List.getElem_toArray, List.getElem_cons_zero, List.getElem_cons_succ, Act.put, List.setIfInBounds_toArray, List.set_cons_zero, List.set_cons_succ]
        refine wpAnyH_take (i := 17) (v := .bool false) rfl (by kernel_rfl) (by kernel_rfl) (by kernel_rfl) (fun _ _ _ h => h) (Or.inl ⟨by kernel_rfl, ?_⟩) hS ?_
        · intro w' hSw
          obtain ⟨g0, g1, g2, g3, g4, g5, g6, g7, g8, g9, g10, g11, _⟩ := hSw
          go_simp
        simp only [List.getElem_toArray, List.getElem_cons_zero, List.getElem_cons_succ, Act.put, List.setIfInBounds_toArray, List.set_cons_zero, List.set_cons_succ]
        refine wpAnyH_take (i := 18) (v := .bool true) rfl (by kernel_rfl) (by kernel_rfl) (by kernel_rfl) (fun _ _ _ h => h) (Or.inl ⟨by kernel_rfl, ?_⟩) hS ?_
        · intro w' hSw
          obtain ⟨g0, g1, g2, g3, g4, g5, g6, g7, g8, g9, g10, g11, _⟩ := hSw
          go_simp
        simp only [List.getElem_toArray, List.getElem_cons_zero, List.getElem_cons_succ, Act.put, List.setIfInBounds_toArray, List.set_cons_zero, List.set_cons_succ]
        refine wpAnyH_take (i := 19) (v := .bool true) rfl (by kernel_rfl) (by kernel_rfl) (by kernel_rfl) (fun _ _ _ h => h) (Or.inl ⟨by kernel_rfl, ?_⟩) hS ?_
        · intro w' hSw
          obtain ⟨g0, g1, g2, g3, g4, g5, g6, g7, g8, g9, g10, g11, _⟩ := hSw
          go_simp
        simp only [List.getElem_toArray, List.getElem_cons_zero, List.getElem_cons_succ, Act.put, List.setIfInBounds_toArray, List.set_cons_zero, List.set_cons_succ]
        refine wpAnyH_take (i := 20) (v := .bool true) rfl (by kernel_rfl) (by kernel_rfl) (by kernel_rfl) (fun _ _ _ h => h) (Or.inl ⟨by kernel_rfl, ?_⟩) hS ?_
        · intro w' hSw
          obtain ⟨g0, g1, g2, g3, g4, g5, g6, g7, g8, g9, g10, g11, _⟩ := hSw
          go_simp
        simp only [List.getElem_toArray, List.getElem_cons_zero, List.getElem_cons_succ, Act.put, List.setIfInBounds_toArray, List.set_cons_zero, List.set_cons_succ]
        refine wpAnyH_take (i := 21) (v := undef) rfl (by kernel_rfl) (by kernel_rfl) (by kernel_rfl) (fun _ _ _ h => h) (Or.inr ⟨by kernel_rfl, rfl⟩) hS ?_
        simp only [List.getElem_toArray, List.getElem_cons_zero, List.getElem_cons_succ, Act.put, List.setIfInBounds_toArray, List.set_cons_zero, List.set_cons_succ]
        refine wpAnyH_take (i := 22) (v := undef) rfl (by kernel_rfl) (by kernel_rfl) (by kernel_rfl) (fun _ _ _ h => h) (Or.inr ⟨by kernel_rfl, rfl⟩) hS ?_
        simp only [List.getElem_toArray, List.getElem_cons_zero, List.getElem_cons_succ, Act.put, List.setIfInBounds_toArray, List.set_cons_zero, List.set_cons_succ]
        refine wpAnyH_take (i := 23) (v := undef) rfl (by kernel_rfl) (by kernel_rfl) (by kernel_rfl) (fun _ _ _ h => h) (Or.inr ⟨by kernel_rfl, rfl⟩) hS ?_
        simp only [List.getElem_toArray, List.getElem_cons_zero, List.getElem_cons_succ, Act.put, List.setIfInBounds_toArray, List.set_cons_zero, List.set_cons_succ]
        refine wpAnyH_take (i := 24) (v := undef) rfl (by kernel_rfl) (by kernel_rfl) (by kernel_rfl) (fun _ _ _ h => h) (Or.inr ⟨by kernel_rfl, rfl⟩) hS ?_
        simp only [List.getElem_toArray, List.getElem_cons_zero, List.getElem_cons_succ, Act.put, List.setIfInBounds_toArray, List.set_cons_zero, List.set_cons_succ]
        refine wpAnyH_take (i := 25) (v := undef) rfl (by kernel_rfl) (by kernel_rfl) (by kernel_rfl) (fun _ _ _ h => h) (Or.inr ⟨by kernel_rfl, rfl⟩) hS ?_
        simp only [List.getElem_toArray, List.getElem_cons_zero, List.getElem_cons_succ, Act.put, List.setIfInBounds_toArray, List.set_cons_zero, List.set_cons_succ]
        refine wpAnyH_take (i := 26) (v := undef) rfl (by kernel_rfl) (by kernel_rfl) (by kernel_rfl) (fun _ _ _ h => h) (Or.inr ⟨by kernel_rfl, rfl⟩) hS ?_
        simp only [List.getElem_toArray, List.getElem_cons_zero, List.getElem_cons_succ, Act.put, List.setIfInBounds_toArray, List.set_cons_zero, List.set_cons_succ]
        refine wpAnyH_take (i := 27) (v := .bool true) rfl (by kernel_rfl) (by kernel_rfl) (by kernel_rfl) (fun _ _ _ h => h) (Or.inl ⟨by kernel_rfl, ?_⟩) hS ?_
        · intro w' hSw
          obtain ⟨g0, g1, g2, g3, g4, g5, g6, g7, g8, g9, g10, g11, _⟩ := hSw
          go_simp
        simp only [List.getElem_toArray, List.getElem_cons_zero, List.getElem_cons_succ, Act.put, List.setIfInBounds_toArray, List.set_cons_zero, List.set_cons_succ]
        refine wpAnyH_done (by kernel_rfl) ?_ _
        have hgw := hS.2.2.2.2.2.2.2.2.2.2.2.2
        go_wp2_with fail
        go_meet
        first | exact ⟨rfl, hgw⟩ | exact ⟨by simp, hgw⟩ | (trace_state; fail)
      case rest =>
        obtain ⟨rfl, hg⟩ := hcut
        have H5 := Lib.hid (And.intro (H4.out.1.kept hg) (And.intro (H4.out.2.1.keep hg) (And.intro (H4.out.2.2.1.kept hg) (And.intro (H4.out.2.2.2.1.kept hg) (And.intro (H4.out.2.2.2.2.1.keep hg) (And.intro (H4.out.2.2.2.2.2.1.keep hg) (And.intro (H4.out.2.2.2.2.2.2.1.keep hg) (grownBy_trans (H4.out.2.2.2.2.2.2.2) hg))))))))
        clear hg
        generalize hwc : wc = v4 at *
        clear hwc
        go_upto_region 8 with fail
        go_cut [2] (fun sx wx => sx = .bool true ∧ v4.grownBy wx none)
        case first =>
          have bb_0 := H5.out.2.1.bx.c 0 (x := .int .i64 u) rfl
          have bb_1 := H5.out.2.1.bx.c 1 (x := .int .i64 n) rfl
          have bb_2 := H5.out.2.1.bx.c 2 (x := .slice ao l.length co) rfl
          have bb_l := H5.out.2.1.bx.lt
          have bn_0 := H5.out.2.2.2.2.1.bx.c 0 (x := .int .i64 U) rfl
          have bn_1 := H5.out.2.2.2.2.1.bx.c 1 (x := .int .i64 N) rfl
          have bn_2 := H5.out.2.2.2.2.1.bx.c 2 (x := .slice p1 L.length q1) rfl
          have bn_l := H5.out.2.2.2.2.1.bx.lt
          have bw_0 := H5.out.2.2.2.2.2.1.bx.c 0 (x := .int .i64 U) rfl
          have bw_1 := H5.out.2.2.2.2.2.1.bx.c 1 (x := .int .i64 N) rfl
          have bw_2 := H5.out.2.2.2.2.2.1.bx.c 2 (x := .slice p2 L.length q2) rfl
          have bw_l := H5.out.2.2.2.2.2.1.bx.lt
          have bf_0 := H5.out.2.2.2.2.2.2.1.bx.c 0 (x := .int .i64 y3) rfl
          have bf_1 := H5.out.2.2.2.2.2.2.1.bx.c 1 (x := .int .i64 m3) rfl
          have bf_2 := H5.out.2.2.2.2.2.2.1.bx.c 2 (x := .slice ao3 l3.length co3) rfl
          have bf_l := H5.out.2.2.2.2.2.2.1.bx.lt
          have hcj : v4.drew.cell? ⟨Bn, 0, none⟩ = some (.int .i64 U) ∧ v4.drew.cell? ⟨Bn, 1, none⟩ = some (.int .i64 N) ∧ v4.drew.cell? ⟨Bn, 2, none⟩ = some (.slice p1 L.length q1) ∧ v4.drew.cell? ⟨Bw, 0, none⟩ = some (.int .i64 U) ∧ v4.drew.cell? ⟨Bw, 1, none⟩ = some (.int .i64 N) ∧ v4.drew.cell? ⟨Bw, 2, none⟩ = some (.slice p2 L.length q2) ∧ v4.drew.cell? ⟨Bf, 0, none⟩ = some (.int .i64 y3) ∧ v4.drew.cell? ⟨Bf, 1, none⟩ = some (.int .i64 m3) ∧ v4.drew.cell? ⟨Bf, 2, none⟩ = some (.slice ao3 l3.length co3) ∧ v4.drew.cell? ⟨Bb, 0, none⟩ = some (.int .i64 u) ∧ v4.drew.cell? ⟨Bb, 1, none⟩ = some (.int .i64 n) ∧ v4.drew.cell? ⟨Bb, 2, none⟩ = some (.slice ao l.length co) ∧ v4.grownBy v4.drew none := ⟨bn_0, bn_1, bn_2, bw_0, bw_1, bw_2, bf_0, bf_1, bf_2, bb_0, bb_1, bb_2, grownBy_drew⟩
          go_region_held3 (fun w' => w'.cell? ⟨Bn, 0, none⟩ = some (.int .i64 U) ∧ w'.cell? ⟨Bn, 1, none⟩ = some (.int .i64 N) ∧ w'.cell? ⟨Bn, 2, none⟩ = some (.slice p1 L.length q1) ∧ w'.cell? ⟨Bw, 0, none⟩ = some (.int .i64 U) ∧ w'.cell? ⟨Bw, 1, none⟩ = some (.int .i64 N) ∧ w'.cell? ⟨Bw, 2, none⟩ = some (.slice p2 L.length q2) ∧ w'.cell? ⟨Bf, 0, none⟩ = some (.int .i64 y3) ∧ w'.cell? ⟨Bf, 1, none⟩ = some (.int .i64 m3) ∧ w'.cell? ⟨Bf, 2, none⟩ = some (.slice ao3 l3.length co3) ∧ w'.cell? ⟨Bb, 0, none⟩ = some (.int .i64 u) ∧ w'.cell? ⟨Bb, 1, none⟩ = some (.int .i64 n) ∧ w'.cell? ⟨Bb, 2, none⟩ = some (.slice ao l.length co) ∧ v4.grownBy w' none) ((first | assumption | exact s12 (by assumption) grownBy_drew | exact s12 (by assumption) (World.grownBy_alloc _ _ none))) (first | (go_at_call 16; refine (same_board U N p1 p2 q1 q2 L _ ((H5.out.2.2.2.2.1.rg.kept (by first | assumption | exact grownBy_drew))) ((H5.out.2.2.2.2.2.1.rg.kept (by first | assumption | exact grownBy_drew))) (sack_len HR.out)).mono ?_; rintro e v20 ⟨rfl, hg⟩; have qb := s12 (by assumption) hg; obtain ⟨qb0, qb1, qb2, qb3, qb4, qb5, qb6, qb7, qb8, qb9, qb10, qb11, qbg⟩ := qb; have qb := And.intro qb0 (And.intro qb1 (And.intro qb2 (And.intro qb3 (And.intro qb4 (And.intro qb5 (And.intro qb6 (And.intro qb7 (And.intro qb8 (And.intro qb9 (And.intro qb10 (And.intro qb11 (qbg))))))))))))) | (go_at_call 19; refine (flight_at HZ.out _ ((H5.out.2.2.2.2.2.2.1.rg.kept (by first | assumption | exact grownBy_drew)))).mono ?_; rintro e v21 ⟨rfl, hg⟩; have qb := s12 (by assumption) hg; obtain ⟨qb0, qb1, qb2, qb3, qb4, qb5, qb6, qb7, qb8, qb9, qb10, qb11, qbg⟩ := qb; have qb := And.intro qb0 (And.intro qb1 (And.intro qb2 (And.intro qb3 (And.intro qb4 (And.intro qb5 (And.intro qb6 (And.intro qb7 (And.intro qb8 (And.intro qb9 (And.intro qb10 (And.intro qb11 (qbg))))))))))))) | (go_at_call 25; refine (flightS_at HZ.out _ ((H5.out.2.2.2.2.2.2.1.rg.kept (by first | assumption | exact grownBy_drew))) (by have := HL3.out; omega)).mono ?_; rintro e v22 ⟨rfl, hg⟩; have qb := s12 (by assumption) hg; obtain ⟨qb0, qb1, qb2, qb3, qb4, qb5, qb6, qb7, qb8, qb9, qb10, qb11, qbg⟩ := qb; have qb := And.intro qb0 (And.intro qb1 (And.intro qb2 (And.intro qb3 (And.intro qb4 (And.intro qb5 (And.intro qb6 (And.intro qb7 (And.intro qb8 (And.intro qb9 (And.intro qb10 (And.intro qb11 (qbg))))))))))))) | (fail))
          all_goals
            go_wp2_with fail
            go_meet
            first | exact ⟨rfl, by assumption⟩ | exact ⟨by simp, by assumption⟩ | (trace_state; fail)
        case rest =>
          obtain ⟨rfl, hg⟩ := hcut
          have H6 := Lib.hid (And.intro (H5.out.1.kept hg) (And.intro (H5.out.2.1.keep hg) (And.intro (H5.out.2.2.1.kept hg) (And.intro (H5.out.2.2.2.1.kept hg) (And.intro (H5.out.2.2.2.2.1.keep hg) (And.intro (H5.out.2.2.2.2.2.1.keep hg) (And.intro (H5.out.2.2.2.2.2.2.1.keep hg) (grownBy_trans (H5.out.2.2.2.2.2.2.2) hg))))))))
          clear hg
          generalize hwc : wc = v5 at *
          clear hwc
          go_wp2_with fail
          go_ret
          exact ⟨rfl, below_new (H6.out.2.2.2.2.2.2.2)⟩
    · obtain ⟨hbl, hx1, hbL, hU, hN, hx2, hin, hx3⟩ := sack_facts HR.out
      clear hx1 hx2 hx3
      subst hU hN
      have HIN := Lib.hid hin
      have HBL := Lib.hid hbL
      have b1 := hbl.1
      have b2 := hbl.2.1
      have b3 := hbl.2.2.1
      have b4 := hbl.2.2.2.1
      clear hbl hin hbL
      have s1 : IntKind.i64.wrap (N - U) = N - U := IntWalk.i64_in _ (by omega)
      by_cases h200 : 200 < N - U
      · have e2 : decide (200 < N - U) = true := decide_eq_true h200
        go_cut [62] (fun sx wx => sx = .bool true ∧ v3a.grownBy wx none)
        case first =>
          have bb_0 := H4.out.2.1.bx.c 0 (x := .int .i64 U) rfl
          have bb_1 := H4.out.2.1.bx.c 1 (x := .int .i64 N) rfl
          have bb_2 := H4.out.2.1.bx.c 2 (x := .slice ao l.length co) rfl
          have bb_l := H4.out.2.1.bx.lt
          have bn_0 := H4.out.2.2.2.2.1.bx.c 0 (x := .int .i64 U) rfl
          have bn_1 := H4.out.2.2.2.2.1.bx.c 1 (x := .int .i64 N) rfl
          have bn_2 := H4.out.2.2.2.2.1.bx.c 2 (x := .slice p1 L.length q1) rfl
          have bn_l := H4.out.2.2.2.2.1.bx.lt
          have bw_0 := H4.out.2.2.2.2.2.1.bx.c 0 (x := .int .i64 U) rfl
          have bw_1 := H4.out.2.2.2.2.2.1.bx.c 1 (x := .int .i64 N) rfl
          have bw_2 := H4.out.2.2.2.2.2.1.bx.c 2 (x := .slice p2 L.length q2) rfl
          have bw_l := H4.out.2.2.2.2.2.1.bx.lt
          have bf_0 := H4.out.2.2.2.2.2.2.1.bx.c 0 (x := .int .i64 y3) rfl
          have bf_1 := H4.out.2.2.2.2.2.2.1.bx.c 1 (x := .int .i64 m3) rfl
          have bf_2 := H4.out.2.2.2.2.2.2.1.bx.c 2 (x := .slice ao3 l3.length co3) rfl
          have bf_l := H4.out.2.2.2.2.2.2.1.bx.lt
          have hcj : v3a.drew.cell? ⟨Bn, 0, none⟩ = some (.int .i64 U) ∧ v3a.drew.cell? ⟨Bn, 1, none⟩ = some (.int .i64 N) ∧ v3a.drew.cell? ⟨Bn, 2, none⟩ = some (.slice p1 L.length q1) ∧ v3a.drew.cell? ⟨Bw, 0, none⟩ = some (.int .i64 U) ∧ v3a.drew.cell? ⟨Bw, 1, none⟩ = some (.int .i64 N) ∧ v3a.drew.cell? ⟨Bw, 2, none⟩ = some (.slice p2 L.length q2) ∧ v3a.drew.cell? ⟨Bf, 0, none⟩ = some (.int .i64 y3) ∧ v3a.drew.cell? ⟨Bf, 1, none⟩ = some (.int .i64 m3) ∧ v3a.drew.cell? ⟨Bf, 2, none⟩ = some (.slice ao3 l3.length co3) ∧ v3a.drew.cell? ⟨Bb, 0, none⟩ = some (.int .i64 U) ∧ v3a.drew.cell? ⟨Bb, 1, none⟩ = some (.int .i64 N) ∧ v3a.drew.cell? ⟨Bb, 2, none⟩ = some (.slice ao l.length co) ∧ v3a.grownBy v3a.drew none := ⟨bn_0, bn_1, bn_2, bw_0, bw_1, bw_2, bf_0, bf_1, bf_2, bb_0, bb_1, bb_2, grownBy_drew⟩
          go_region_held3 (fun w' => w'.cell? ⟨Bn, 0, none⟩ = some (.int .i64 U) ∧ w'.cell? ⟨Bn, 1, none⟩ = some (.int .i64 N) ∧ w'.cell? ⟨Bn, 2, none⟩ = some (.slice p1 L.length q1) ∧ w'.cell? ⟨Bw, 0, none⟩ = some (.int .i64 U) ∧ w'.cell? ⟨Bw, 1, none⟩ = some (.int .i64 N) ∧ w'.cell? ⟨Bw, 2, none⟩ = some (.slice p2 L.length q2) ∧ w'.cell? ⟨Bf, 0, none⟩ = some (.int .i64 y3) ∧ w'.cell? ⟨Bf, 1, none⟩ = some (.int .i64 m3) ∧ w'.cell? ⟨Bf, 2, none⟩ = some (.slice ao3 l3.length co3) ∧ w'.cell? ⟨Bb, 0, none⟩ = some (.int .i64 U) ∧ w'.cell? ⟨Bb, 1, none⟩ = some (.int .i64 N) ∧ w'.cell? ⟨Bb, 2, none⟩ = some (.slice ao l.length co) ∧ v3a.grownBy w' none) ((first | assumption | exact s12 (by assumption) grownBy_drew | exact s12 (by assumption) (World.grownBy_alloc _ _ none))) (first | (go_at_call 16; refine (same_board U N p1 p2 q1 q2 L _ ((H4.out.2.2.2.2.1.rg.kept (by first | assumption | exact grownBy_drew))) ((H4.out.2.2.2.2.2.1.rg.kept (by first | assumption | exact grownBy_drew))) (sack_len HR.out)).mono ?_; rintro e v20 ⟨rfl, hg⟩; have qb := s12 (by assumption) hg; obtain ⟨qb0, qb1, qb2, qb3, qb4, qb5, qb6, qb7, qb8, qb9, qb10, qb11, qbg⟩ := qb; have qb := And.intro qb0 (And.intro qb1 (And.intro qb2 (And.intro qb3 (And.intro qb4 (And.intro qb5 (And.intro qb6 (And.intro qb7 (And.intro qb8 (And.intro qb9 (And.intro qb10 (And.intro qb11 (qbg))))))))))))) | (go_at_call 19; refine (flight_at HZ.out _ ((H4.out.2.2.2.2.2.2.1.rg.kept (by first | assumption | exact grownBy_drew)))).mono ?_; rintro e v21 ⟨rfl, hg⟩; have qb := s12 (by assumption) hg; obtain ⟨qb0, qb1, qb2, qb3, qb4, qb5, qb6, qb7, qb8, qb9, qb10, qb11, qbg⟩ := qb; have qb := And.intro qb0 (And.intro qb1 (And.intro qb2 (And.intro qb3 (And.intro qb4 (And.intro qb5 (And.intro qb6 (And.intro qb7 (And.intro qb8 (And.intro qb9 (And.intro qb10 (And.intro qb11 (qbg))))))))))))) | (go_at_call 25; refine (flightS_at HZ.out _ ((H4.out.2.2.2.2.2.2.1.rg.kept (by first | assumption | exact grownBy_drew))) (by have := HL3.out; omega)).mono ?_; rintro e v22 ⟨rfl, hg⟩; have qb := s12 (by assumption) hg; obtain ⟨qb0, qb1, qb2, qb3, qb4, qb5, qb6, qb7, qb8, qb9, qb10, qb11, qbg⟩ := qb; have qb := And.intro qb0 (And.intro qb1 (And.intro qb2 (And.intro qb3 (And.intro qb4 (And.intro qb5 (And.intro qb6 (And.intro qb7 (And.intro qb8 (And.intro qb9 (And.intro qb10 (And.intro qb11 (qbg))))))))))))) | (fail))
          all_goals
            go_wp2_with fail
            go_meet
            first | exact ⟨rfl, by assumption⟩ | exact ⟨by simp, by assumption⟩ | (trace_state; fail)
        case rest =>
          obtain ⟨rfl, hg⟩ := hcut
          have H5 := Lib.hid (And.intro (H4.out.1.kept hg) (And.intro (H4.out.2.1.keep hg) (And.intro (H4.out.2.2.1.kept hg) (And.intro (H4.out.2.2.2.1.kept hg) (And.intro (H4.out.2.2.2.2.1.keep hg) (And.intro (H4.out.2.2.2.2.2.1.keep hg) (And.intro (H4.out.2.2.2.2.2.2.1.keep hg) (grownBy_trans (H4.out.2.2.2.2.2.2.2) hg))))))))
          clear hg
          generalize hwc : wc = v4 at *
          clear hwc
          go_upto_region 8 with fail
          go_cut [2] (fun sx wx => sx = .bool true ∧ v4.grownBy wx none)
          case first =>
            have bb_0 := H5.out.2.1.bx.c 0 (x := .int .i64 U) rfl
            have bb_1 := H5.out.2.1.bx.c 1 (x := .int .i64 N) rfl
            have bb_2 := H5.out.2.1.bx.c 2 (x := .slice ao l.length co) rfl
            have bb_l := H5.out.2.1.bx.lt
            have bn_0 := H5.out.2.2.2.2.1.bx.c 0 (x := .int .i64 U) rfl
            have bn_1 := H5.out.2.2.2.2.1.bx.c 1 (x := .int .i64 N) rfl
            have bn_2 := H5.out.2.2.2.2.1.bx.c 2 (x := .slice p1 L.length q1) rfl
            have bn_l := H5.out.2.2.2.2.1.bx.lt
            have bw_0 := H5.out.2.2.2.2.2.1.bx.c 0 (x := .int .i64 U) rfl
            have bw_1 := H5.out.2.2.2.2.2.1.bx.c 1 (x := .int .i64 N) rfl
            have bw_2 := H5.out.2.2.2.2.2.1.bx.c 2 (x := .slice p2 L.length q2) rfl
            have bw_l := H5.out.2.2.2.2.2.1.bx.lt
            have bf_0 := H5.out.2.2.2.2.2.2.1.bx.c 0 (x := .int .i64 y3) rfl
            have bf_1 := H5.out.2.2.2.2.2.2.1.bx.c 1 (x := .int .i64 m3) rfl
            have bf_2 := H5.out.2.2.2.2.2.2.1.bx.c 2 (x := .slice ao3 l3.length co3) rfl
            have bf_l := H5.out.2.2.2.2.2.2.1.bx.lt
            have hcj : v4.drew.cell? ⟨Bn, 0, none⟩ = some (.int .i64 U) ∧ v4.drew.cell? ⟨Bn, 1, none⟩ = some (.int .i64 N) ∧ v4.drew.cell? ⟨Bn, 2, none⟩ = some (.slice p1 L.length q1) ∧ v4.drew.cell? ⟨Bw, 0, none⟩ = some (.int .i64 U) ∧ v4.drew.cell? ⟨Bw, 1, none⟩ = some (.int .i64 N) ∧ v4.drew.cell? ⟨Bw, 2, none⟩ = some (.slice p2 L.length q2) ∧ v4.drew.cell? ⟨Bf, 0, none⟩ = some (.int .i64 y3) ∧ v4.drew.cell? ⟨Bf, 1, none⟩ = some (.int .i64 m3) ∧ v4.drew.cell? ⟨Bf, 2, none⟩ = some (.slice ao3 l3.length co3) ∧ v4.drew.cell? ⟨Bb, 0, none⟩ = some (.int .i64 U) ∧ v4.drew.cell? ⟨Bb, 1, none⟩ = some (.int .i64 N) ∧ v4.drew.cell? ⟨Bb, 2, none⟩ = some (.slice ao l.length co) ∧ v4.grownBy v4.drew none := ⟨bn_0, bn_1, bn_2, bw_0, bw_1, bw_2, bf_0, bf_1, bf_2, bb_0, bb_1, bb_2, grownBy_drew⟩
            go_region_held3 (fun w' => w'.cell? ⟨Bn, 0, none⟩ = some (.int .i64 U) ∧ w'.cell? ⟨Bn, 1, none⟩ = some (.int .i64 N) ∧ w'.cell? ⟨Bn, 2, none⟩ = some (.slice p1 L.length q1) ∧ w'.cell? ⟨Bw, 0, none⟩ = some (.int .i64 U) ∧ w'.cell? ⟨Bw, 1, none⟩ = some (.int .i64 N) ∧ w'.cell? ⟨Bw, 2, none⟩ = some (.slice p2 L.length q2) ∧ w'.cell? ⟨Bf, 0, none⟩ = some (.int .i64 y3) ∧ w'.cell? ⟨Bf, 1, none⟩ = some (.int .i64 m3) ∧ w'.cell? ⟨Bf, 2, none⟩ = some (.slice ao3 l3.length co3) ∧ w'.cell? ⟨Bb, 0, none⟩ = some (.int .i64 U) ∧ w'.cell? ⟨Bb, 1, none⟩ = some (.int .i64 N) ∧ w'.cell? ⟨Bb, 2, none⟩ = some (.slice ao l.length co) ∧ v4.grownBy w' none) ((first | assumption | exact s12 (by assumption) grownBy_drew | exact s12 (by assumption) (World.grownBy_alloc _ _ none))) (first | (go_at_call 16; refine (same_board U N p1 p2 q1 q2 L _ ((H5.out.2.2.2.2.1.rg.kept (by first | assumption | exact grownBy_drew))) ((H5.out.2.2.2.2.2.1.rg.kept (by first | assumption | exact grownBy_drew))) (sack_len HR.out)).mono ?_; rintro e v20 ⟨rfl, hg⟩; have qb := s12 (by assumption) hg; obtain ⟨qb0, qb1, qb2, qb3, qb4, qb5, qb6, qb7, qb8, qb9, qb10, qb11, qbg⟩ := qb; have qb := And.intro qb0 (And.intro qb1 (And.intro qb2 (And.intro qb3 (And.intro qb4 (And.intro qb5 (And.intro qb6 (And.intro qb7 (And.intro qb8 (And.intro qb9 (And.intro qb10 (And.intro qb11 (qbg))))))))))))) | (go_at_call 19; refine (flight_at HZ.out _ ((H5.out.2.2.2.2.2.2.1.rg.kept (by first | assumption | exact grownBy_drew)))).mono ?_; rintro e v21 ⟨rfl, hg⟩; have qb := s12 (by assumption) hg; obtain ⟨qb0, qb1, qb2, qb3, qb4, qb5, qb6, qb7, qb8, qb9, qb10, qb11, qbg⟩ := qb; have qb := And.intro qb0 (And.intro qb1 (And.intro qb2 (And.intro qb3 (And.intro qb4 (And.intro qb5 (And.intro qb6 (And.intro qb7 (And.intro qb8 (And.intro qb9 (And.intro qb10 (And.intro qb11 (qbg))))))))))))) | (go_at_call 25; refine (flightS_at HZ.out _ ((H5.out.2.2.2.2.2.2.1.rg.kept (by first | assumption | exact grownBy_drew))) (by have := HL3.out; omega)).mono ?_; rintro e v22 ⟨rfl, hg⟩; have qb := s12 (by assumption) hg; obtain ⟨qb0, qb1, qb2, qb3, qb4, qb5, qb6, qb7, qb8, qb9, qb10, qb11, qbg⟩ := qb; have qb := And.intro qb0 (And.intro qb1 (And.intro qb2 (And.intro qb3 (And.intro qb4 (And.intro qb5 (And.intro qb6 (And.intro qb7 (And.intro qb8 (And.intro qb9 (And.intro qb10 (And.intro qb11 (qbg))))))))))))) | (fail))
            all_goals
              go_wp2_with fail
              go_meet
              first | exact ⟨rfl, by assumption⟩ | exact ⟨by simp, by assumption⟩ | (trace_state; fail)
          case rest =>
            obtain ⟨rfl, hg⟩ := hcut
            have H6 := Lib.hid (And.intro (H5.out.1.kept hg) (And.intro (H5.out.2.1.keep hg) (And.intro (H5.out.2.2.1.kept hg) (And.intro (H5.out.2.2.2.1.kept hg) (And.intro (H5.out.2.2.2.2.1.keep hg) (And.intro (H5.out.2.2.2.2.2.1.keep hg) (And.intro (H5.out.2.2.2.2.2.2.1.keep hg) (grownBy_trans (H5.out.2.2.2.2.2.2.2) hg))))))))
            clear hg
            generalize hwc : wc = v5 at *
            clear hwc
            go_wp2_with fail
            go_ret
            exact ⟨rfl, below_new (H6.out.2.2.2.2.2.2.2)⟩
      · have e2 : decide (200 < N - U) = false := decide_eq_false h200
        go_cut [62] (fun sx wx => sx = .bool false ∧ v3a.grownBy wx none)
        case first =>
          have bb_0 := H4.out.2.1.bx.c 0 (x := .int .i64 U) rfl
          have bb_1 := H4.out.2.1.bx.c 1 (x := .int .i64 N) rfl
          have bb_2 := H4.out.2.1.bx.c 2 (x := .slice ao l.length co) rfl
          have bb_l := H4.out.2.1.bx.lt
          have bn_0 := H4.out.2.2.2.2.1.bx.c 0 (x := .int .i64 U) rfl
          have bn_1 := H4.out.2.2.2.2.1.bx.c 1 (x := .int .i64 N) rfl
          have bn_2 := H4.out.2.2.2.2.1.bx.c 2 (x := .slice p1 L.length q1) rfl
          have bn_l := H4.out.2.2.2.2.1.bx.lt
          have bw_0 := H4.out.2.2.2.2.2.1.bx.c 0 (x := .int .i64 U) rfl
          have bw_1 := H4.out.2.2.2.2.2.1.bx.c 1 (x := .int .i64 N) rfl
          have bw_2 := H4.out.2.2.2.2.2.1.bx.c 2 (x := .slice p2 L.length q2) rfl
          have bw_l := H4.out.2.2.2.2.2.1.bx.lt
          have bf_0 := H4.out.2.2.2.2.2.2.1.bx.c 0 (x := .int .i64 y3) rfl
          have bf_1 := H4.out.2.2.2.2.2.2.1.bx.c 1 (x := .int .i64 m3) rfl
          have bf_2 := H4.out.2.2.2.2.2.2.1.bx.c 2 (x := .slice ao3 l3.length co3) rfl
          have bf_l := H4.out.2.2.2.2.2.2.1.bx.lt
          have hcj : v3a.drew.cell? ⟨Bn, 0, none⟩ = some (.int .i64 U) ∧ v3a.drew.cell? ⟨Bn, 1, none⟩ = some (.int .i64 N) ∧ v3a.drew.cell? ⟨Bn, 2, none⟩ = some (.slice p1 L.length q1) ∧ v3a.drew.cell? ⟨Bw, 0, none⟩ = some (.int .i64 U) ∧ v3a.drew.cell? ⟨Bw, 1, none⟩ = some (.int .i64 N) ∧ v3a.drew.cell? ⟨Bw, 2, none⟩ = some (.slice p2 L.length q2) ∧ v3a.drew.cell? ⟨Bf, 0, none⟩ = some (.int .i64 y3) ∧ v3a.drew.cell? ⟨Bf, 1, none⟩ = some (.int .i64 m3) ∧ v3a.drew.cell? ⟨Bf, 2, none⟩ = some (.slice ao3 l3.length co3) ∧ v3a.drew.cell? ⟨Bb, 0, none⟩ = some (.int .i64 U) ∧ v3a.drew.cell? ⟨Bb, 1, none⟩ = some (.int .i64 N) ∧ v3a.drew.cell? ⟨Bb, 2, none⟩ = some (.slice ao l.length co) ∧ v3a.grownBy v3a.drew none := ⟨bn_0, bn_1, bn_2, bw_0, bw_1, bw_2, bf_0, bf_1, bf_2, bb_0, bb_1, bb_2, grownBy_drew⟩
          go_region_held3 (fun w' => w'.cell? ⟨Bn, 0, none⟩ = some (.int .i64 U) ∧ w'.cell? ⟨Bn, 1, none⟩ = some (.int .i64 N) ∧ w'.cell? ⟨Bn, 2, none⟩ = some (.slice p1 L.length q1) ∧ w'.cell? ⟨Bw, 0, none⟩ = some (.int .i64 U) ∧ w'.cell? ⟨Bw, 1, none⟩ = some (.int .i64 N) ∧ w'.cell? ⟨Bw, 2, none⟩ = some (.slice p2 L.length q2) ∧ w'.cell? ⟨Bf, 0, none⟩ = some (.int .i64 y3) ∧ w'.cell? ⟨Bf, 1, none⟩ = some (.int .i64 m3) ∧ w'.cell? ⟨Bf, 2, none⟩ = some (.slice ao3 l3.length co3) ∧ w'.cell? ⟨Bb, 0, none⟩ = some (.int .i64 U) ∧ w'.cell? ⟨Bb, 1, none⟩ = some (.int .i64 N) ∧ w'.cell? ⟨Bb, 2, none⟩ = some (.slice ao l.length co) ∧ v3a.grownBy w' none) ((first | assumption | exact s12 (by assumption) grownBy_drew | exact s12 (by assumption) (World.grownBy_alloc _ _ none))) (first | (go_at_call 16; refine (same_board U N p1 p2 q1 q2 L _ ((H4.out.2.2.2.2.1.rg.kept (by first | assumption | exact grownBy_drew))) ((H4.out.2.2.2.2.2.1.rg.kept (by first | assumption | exact grownBy_drew))) (sack_len HR.out)).mono ?_; rintro e v20 ⟨rfl, hg⟩; have qb := s12 (by assumption) hg; obtain ⟨qb0, qb1, qb2, qb3, qb4, qb5, qb6, qb7, qb8, qb9, qb10, qb11, qbg⟩ := qb; have qb := And.intro qb0 (And.intro qb1 (And.intro qb2 (And.intro qb3 (And.intro qb4 (And.intro qb5 (And.intro qb6 (And.intro qb7 (And.intro qb8 (And.intro qb9 (And.intro qb10 (And.intro qb11 (qbg))))))))))))) | (go_at_call 19; refine (flight_at HZ.out _ ((H4.out.2.2.2.2.2.2.1.rg.kept (by first | assumption | exact grownBy_drew)))).mono ?_; rintro e v21 ⟨rfl, hg⟩; have qb := s12 (by assumption) hg; obtain ⟨qb0, qb1, qb2, qb3, qb4, qb5, qb6, qb7, qb8, qb9, qb10, qb11, qbg⟩ := qb; have qb := And.intro qb0 (And.intro qb1 (And.intro qb2 (And.intro qb3 (And.intro qb4 (And.intro qb5 (And.intro qb6 (And.intro qb7 (And.intro qb8 (And.intro qb9 (And.intro qb10 (And.intro qb11 (qbg))))))))))))) | (go_at_call 25; refine (flightS_at HZ.out _ ((H4.out.2.2.2.2.2.2.1.rg.kept (by first | assumption | exact grownBy_drew))) (by have := HL3.out; omega)).mono ?_; rintro e v22 ⟨rfl, hg⟩; have qb := s12 (by assumption) hg; obtain ⟨qb0, qb1, qb2, qb3, qb4, qb5, qb6, qb7, qb8, qb9, qb10, qb11, qbg⟩ := qb; have qb := And.intro qb0 (And.intro qb1 (And.intro qb2 (And.intro qb3 (And.intro qb4 (And.intro qb5 (And.intro qb6 (And.intro qb7 (And.intro qb8 (And.intro qb9 (And.intro qb10 (And.intro qb11 (qbg))))))))))))) | (fail))
          all_goals
            go_wp2_with fail
            go_meet
            first | exact ⟨rfl, by assumption⟩ | exact ⟨by simp, by assumption⟩ | (trace_state; fail)
        case rest =>
          obtain ⟨rfl, hg⟩ := hcut
          have H5 := Lib.hid (And.intro (H4.out.1.kept hg) (And.intro (H4.out.2.1.keep hg) (And.intro (H4.out.2.2.1.kept hg) (And.intro (H4.out.2.2.2.1.kept hg) (And.intro (H4.out.2.2.2.2.1.keep hg) (And.intro (H4.out.2.2.2.2.2.1.keep hg) (And.intro (H4.out.2.2.2.2.2.2.1.keep hg) (grownBy_trans (H4.out.2.2.2.2.2.2.2) hg))))))))
          clear hg
          generalize hwc : wc = v4 at *
          clear hwc
          have bb_0 := H5.out.2.1.bx.c 0 (x := .int .i64 U) rfl
          have bb_1 := H5.out.2.1.bx.c 1 (x := .int .i64 N) rfl
          have bb_2 := H5.out.2.1.bx.c 2 (x := .slice ao l.length co) rfl
          have bb_l := H5.out.2.1.bx.lt
          go_wp2_with fail
          clear bb_0 bb_1 bb_2 bb_l
          go_loopw [10, 11] (fun v i wr => SoRel v4 L U N v i wr) (fun _ i _ => (N + 1 - intOf i).toNat)
          case atStart => exact ⟨0, by simp, rfl, by omega, World.grownBy.refl _ _⟩
          case round =>
            rename World => wo
            obtain ⟨k, hi, hv, hk1, hg⟩ := hrel
            obtain ⟨q, hq⟩ : ∃ q : Int, q = U + k := ⟨_, rfl⟩
            rw [← hq] at hi
            subst hi
            have hq0 : U ≤ q := by omega
            have hq1 : q ≤ N := by omega
            have HQK := Lib.hid hq
            clear hq
            obtain ⟨z, hz⟩ : ∃ z : Int, z = (k : Int) - cntL L U k := ⟨_, rfl⟩
            rw [← hz] at hv
            subst hv
            have HZ2 := Lib.hid hz
            have hz0 : 0 ≤ z ∧ z ≤ k := by rw [hz]; have := cnt_bd L U k; omega
            clear hz
            have HG0 := Lib.hid hg
            have H6 := Lib.hid (And.intro (H5.out.1.kept hg) (And.intro (H5.out.2.1.keep hg) (And.intro (H5.out.2.2.1.kept hg) (And.intro (H5.out.2.2.2.1.kept hg) (And.intro (H5.out.2.2.2.2.1.keep hg) (And.intro (H5.out.2.2.2.2.2.1.keep hg) (And.intro (H5.out.2.2.2.2.2.2.1.keep hg) (grownBy_trans (H5.out.2.2.2.2.2.2.2) hg))))))))
            clear hg
            by_cases c1 : q < N
            · have s3 : IntKind.i64.wrap (z + 1) = z + 1 := IntWalk.i64_in _ (by omega)
              have s4 : IntKind.i64.wrap (q + 1) = q + 1 := IntWalk.i64_in _ (by omega)
              obtain ⟨y, hy⟩ : ∃ y, inL l q = y := ⟨_, rfl⟩
              have HY := Lib.hid hy
              clear hy
              have bb_0 := H6.out.2.1.bx.c 0 (x := .int .i64 U) rfl
              have bb_1 := H6.out.2.1.bx.c 1 (x := .int .i64 N) rfl
              have bb_2 := H6.out.2.1.bx.c 2 (x := .slice ao l.length co) rfl
              have bb_l := H6.out.2.1.bx.lt
              go_wp2_with fail
              refine (sacked_as HY.out _ (H6.out.2.1.rg) (by omega)).mono ?_
              rintro e v6 ⟨rfl, hg⟩
              have HG6 := Lib.hid (grownBy_trans HG0.out hg)
              have H7 := Lib.hid (And.intro (H6.out.1.kept hg) (And.intro (H6.out.2.1.keep hg) (And.intro (H6.out.2.2.1.kept hg) (And.intro (H6.out.2.2.2.1.kept hg) (And.intro (H6.out.2.2.2.2.1.keep hg) (And.intro (H6.out.2.2.2.2.2.1.keep hg) (And.intro (H6.out.2.2.2.2.2.2.1.keep hg) (grownBy_trans (H6.out.2.2.2.2.2.2.2) hg))))))))
              clear hg
              clear bb_0 bb_1 bb_2 bb_l
              go_wp2_with fail
              go_loopw [12, 13] (fun v i wr => SiRel v6 y U N t q v i wr) (fun _ i _ => t.length - (intOf i).toNat)
              case atStart => exact ⟨0, Nat.zero_le _, rfl, by simp [toldL], World.grownBy.refl _ _⟩
              case round =>
                obtain ⟨j, hj, rfl, hv, hg⟩ := hrel
                obtain ⟨z2, hz2⟩ : ∃ z2, (y || toldL U N (t.take j) q) = z2 := ⟨_, rfl⟩
                rw [hz2] at hv
                subst hv
                have HZ3 := Lib.hid hz2
                have HG7 := Lib.hid hg
                clear hz2
                have H8 := Lib.hid (And.intro (H7.out.1.kept hg) (And.intro (H7.out.2.1.keep hg) (And.intro (H7.out.2.2.1.kept hg) (And.intro (H7.out.2.2.2.1.kept hg) (And.intro (H7.out.2.2.2.2.1.keep hg) (And.intro (H7.out.2.2.2.2.2.1.keep hg) (And.intro (H7.out.2.2.2.2.2.2.1.keep hg) (grownBy_trans (H7.out.2.2.2.2.2.2.2) hg))))))))
                clear hg
                by_cases hlt : j < t.length
                · rcases H8.out.2.2.2.1 with h1 | ⟨b2, off2, he, hb2, hd⟩
                  · rw [h1] at hlt
                    simp at hlt
                  · cases he
                    obtain ⟨d0, d1⟩ := hd j hlt
                    clear hd
                    have hj1 : (j : Int) < (t.length : Int) := by omega
                    have hj0 : (0 : Int) ≤ (j : Int) := by omega
                    have hj2 : (t.length : Int) ≤ 2 := by have := HTL.out; omega
                    have HN := Lib.hid (told_next U N t q j hlt)
                    generalize t[j] = x at *
                    obtain ⟨f, g⟩ := x
                    dsimp only at d0 d1
                    simp only [Nat.zero_add] at d0 d1
                    have s5 : IntKind.i64.wrap ((j : Int) + 1) = (j : Int) + 1 := IntWalk.i64_in _ (by omega)
                    have bb_0 := H8.out.2.1.bx.c 0 (x := .int .i64 U) rfl
                    have bb_1 := H8.out.2.1.bx.c 1 (x := .int .i64 N) rfl
                    have bb_2 := H8.out.2.1.bx.c 2 (x := .slice ao l.length co) rfl
                    have bb_l := H8.out.2.1.bx.lt
                    cases z2
                    · by_cases g1 : U < f
                      · have e1 : decide (U < f) = true := decide_eq_true g1
                        by_cases g2 : f < g
                        · have e2 : decide (f < g) = true := decide_eq_true g2
                          by_cases g3 : g ≤ N
                          · have e3 : decide (g ≤ N) = true := decide_eq_true g3
                            by_cases g4 : f ≤ q
                            · have e4 : decide (f ≤ q) = true := decide_eq_true g4
                              by_cases g5 : q < g
                              · have e5 : decide (q < g) = true := decide_eq_true g5
                                have HQ := Lib.hid (show (.bool true : Value) = .bool (y || toldL U N (t.take (j + 1)) q) by rw [HN.out, ← Bool.or_assoc, HZ3.out]; rw [decide_eq_true (show rg1 U N (f, g) ∧ f ≤ q ∧ q < g from ⟨⟨g1, g2, g3⟩, g4, g5⟩)]; rfl)
                                go_upto_region 17 with fail
                                go_quiet (fail)
                                go_wp2_with fail
                                go_roundw
                                case rel => first | exact ⟨j + 1, hlt, by go_num, HQ.out, HG7.out⟩ | exact ⟨j + 1, hlt, by go_num, HQ.out, grownBy_trans HG7.out (grownBy_drewN _)⟩ | exact ⟨j + 1, hlt, by go_num, HQ.out, grownBy_trans HG7.out grownBy_drew⟩
                                case measure => simp [intOf]; omega
                              · have e5 : decide (q < g) = false := decide_eq_false g5
                                have HQ := Lib.hid (show (.bool false : Value) = .bool (y || toldL U N (t.take (j + 1)) q) by rw [HN.out, ← Bool.or_assoc, HZ3.out]; rw [decide_eq_false (fun h => by have h1 := h.1.1; have h2 := h.1.2.1; have h3 := h.1.2.2; have h4 := h.2.1; have h5 := h.2.2; dsimp only at h1 h2 h3 h4 h5; omega)]; rfl)
                                go_upto_region 17 with fail
                                go_quiet (fail)
                                go_wp2_with fail
                                go_roundw
                                case rel => first | exact ⟨j + 1, hlt, by go_num, HQ.out, HG7.out⟩ | exact ⟨j + 1, hlt, by go_num, HQ.out, grownBy_trans HG7.out (grownBy_drewN _)⟩ | exact ⟨j + 1, hlt, by go_num, HQ.out, grownBy_trans HG7.out grownBy_drew⟩
                                case measure => simp [intOf]; omega
                            · have e4 : decide (f ≤ q) = false := decide_eq_false g4
                              have HQ := Lib.hid (show (.bool false : Value) = .bool (y || toldL U N (t.take (j + 1)) q) by rw [HN.out, ← Bool.or_assoc, HZ3.out]; rw [decide_eq_false (fun h => by have h1 := h.1.1; have h2 := h.1.2.1; have h3 := h.1.2.2; have h4 := h.2.1; have h5 := h.2.2; dsimp only at h1 h2 h3 h4 h5; omega)]; rfl)
                              go_upto_region 17 with fail
                              go_quiet (fail)
                              go_wp2_with fail
                              go_roundw
                              case rel => first | exact ⟨j + 1, hlt, by go_num, HQ.out, HG7.out⟩ | exact ⟨j + 1, hlt, by go_num, HQ.out, grownBy_trans HG7.out (grownBy_drewN _)⟩ | exact ⟨j + 1, hlt, by go_num, HQ.out, grownBy_trans HG7.out grownBy_drew⟩
                              case measure => simp [intOf]; omega
                          · have e3 : decide (g ≤ N) = false := decide_eq_false g3
                            have HQ := Lib.hid (show (.bool false : Value) = .bool (y || toldL U N (t.take (j + 1)) q) by rw [HN.out, ← Bool.or_assoc, HZ3.out]; rw [decide_eq_false (fun h => by have h1 := h.1.1; have h2 := h.1.2.1; have h3 := h.1.2.2; have h4 := h.2.1; have h5 := h.2.2; dsimp only at h1 h2 h3 h4 h5; omega)]; rfl)
                            go_upto_region 17 with fail
                            go_quiet (fail)
                            go_wp2_with fail
                            go_roundw
                            case rel => first | exact ⟨j + 1, hlt, by go_num, HQ.out, HG7.out⟩ | exact ⟨j + 1, hlt, by go_num, HQ.out, grownBy_trans HG7.out (grownBy_drewN _)⟩ | exact ⟨j + 1, hlt, by go_num, HQ.out, grownBy_trans HG7.out grownBy_drew⟩
                            case measure => simp [intOf]; omega
                        · have e2 : decide (f < g) = false := decide_eq_false g2
                          have HQ := Lib.hid (show (.bool false : Value) = .bool (y || toldL U N (t.take (j + 1)) q) by rw [HN.out, ← Bool.or_assoc, HZ3.out]; rw [decide_eq_false (fun h => by have h1 := h.1.1; have h2 := h.1.2.1; have h3 := h.1.2.2; have h4 := h.2.1; have h5 := h.2.2; dsimp only at h1 h2 h3 h4 h5; omega)]; rfl)
                          go_upto_region 17 with fail
                          go_quiet (fail)
                          go_wp2_with fail
                          go_roundw
                          case rel => first | exact ⟨j + 1, hlt, by go_num, HQ.out, HG7.out⟩ | exact ⟨j + 1, hlt, by go_num, HQ.out, grownBy_trans HG7.out (grownBy_drewN _)⟩ | exact ⟨j + 1, hlt, by go_num, HQ.out, grownBy_trans HG7.out grownBy_drew⟩
                          case measure => simp [intOf]; omega
                      · have e1 : decide (U < f) = false := decide_eq_false g1
                        have HQ := Lib.hid (show (.bool false : Value) = .bool (y || toldL U N (t.take (j + 1)) q) by rw [HN.out, ← Bool.or_assoc, HZ3.out]; rw [decide_eq_false (fun h => by have h1 := h.1.1; have h2 := h.1.2.1; have h3 := h.1.2.2; have h4 := h.2.1; have h5 := h.2.2; dsimp only at h1 h2 h3 h4 h5; omega)]; rfl)
                        go_upto_region 17 with fail
                        go_quiet (fail)
                        go_wp2_with fail
                        go_roundw
                        case rel => first | exact ⟨j + 1, hlt, by go_num, HQ.out, HG7.out⟩ | exact ⟨j + 1, hlt, by go_num, HQ.out, grownBy_trans HG7.out (grownBy_drewN _)⟩ | exact ⟨j + 1, hlt, by go_num, HQ.out, grownBy_trans HG7.out grownBy_drew⟩
                        case measure => simp [intOf]; omega
                    · have HQ := Lib.hid (show (.bool true : Value) = .bool (y || toldL U N (t.take (j + 1)) q) by rw [HN.out, ← Bool.or_assoc, HZ3.out]; rfl)
                      go_upto_region 17 with fail
                      go_quiet (fail)
                      go_wp2_with fail
                      go_roundw
                      case rel => first | exact ⟨j + 1, hlt, by go_num, HQ.out, HG7.out⟩ | exact ⟨j + 1, hlt, by go_num, HQ.out, grownBy_trans HG7.out (grownBy_drewN _)⟩ | exact ⟨j + 1, hlt, by go_num, HQ.out, grownBy_trans HG7.out grownBy_drew⟩
                      case measure => simp [intOf]; omega
                · obtain rfl : j = t.length := by omega
                  have hin := HIN.out q
                  rw [HY.out, show toldL U N t q = toldL U N (t.take t.length) q by rw [List.take_length], HZ3.out] at hin
                  have HI2 := Lib.hid hin
                  clear hin
                  have HE := Lib.hid (show (k : Int) + 1 - cntL L U (k + 1) = z + (if z2 = true then 0 else 1) by rw [cntL, ← HQK.out, HI2.out, HZ2.out]; cases z2 <;> simp <;> omega)
                  have bn_0 := H8.out.2.2.2.2.1.bx.c 0 (x := .int .i64 U) rfl
                  have bn_1 := H8.out.2.2.2.2.1.bx.c 1 (x := .int .i64 N) rfl
                  have bn_2 := H8.out.2.2.2.2.1.bx.c 2 (x := .slice p1 L.length q1) rfl
                  have bn_l := H8.out.2.2.2.2.1.bx.lt
                  go_wp2_with fail
                  refine (sacked_as HI2.out _ (H8.out.2.2.2.2.1.rg) (by have := HBL.out.2.2.2.1; omega)).mono ?_
                  rintro e v8 ⟨rfl, hg⟩
                  have HG8 := Lib.hid (grownBy_trans (grownBy_trans HG6.out HG7.out) hg)
                  have H9 := Lib.hid (And.intro (H8.out.1.kept hg) (And.intro (H8.out.2.1.keep hg) (And.intro (H8.out.2.2.1.kept hg) (And.intro (H8.out.2.2.2.1.kept hg) (And.intro (H8.out.2.2.2.2.1.keep hg) (And.intro (H8.out.2.2.2.2.2.1.keep hg) (And.intro (H8.out.2.2.2.2.2.2.1.keep hg) (grownBy_trans (H8.out.2.2.2.2.2.2.2) hg))))))))
                  clear hg
                  clear bn_0 bn_1 bn_2 bn_l
                  cases z2
                  · have bb_0 := H9.out.2.1.bx.c 0 (x := .int .i64 U) rfl
                    have bb_1 := H9.out.2.1.bx.c 1 (x := .int .i64 N) rfl
                    have bb_2 := H9.out.2.1.bx.c 2 (x := .slice ao l.length co) rfl
                    have bb_l := H9.out.2.1.bx.lt
                    go_wp2_with fail
                    go_roundw
                    case rel => exact ⟨k + 1, by have := HQK.out; congr 1; omega, by rw [Int.natCast_add, Int.natCast_one, HE.out]; simp, by have := HQK.out; omega, HG8.out⟩
                    case measure => simp [intOf]; omega
                  · have bb_0 := H9.out.2.1.bx.c 0 (x := .int .i64 U) rfl
                    have bb_1 := H9.out.2.1.bx.c 1 (x := .int .i64 N) rfl
                    have bb_2 := H9.out.2.1.bx.c 2 (x := .slice ao l.length co) rfl
                    have bb_l := H9.out.2.1.bx.lt
                    go_wp2_with fail
                    go_roundw
                    case rel => exact ⟨k + 1, by have := HQK.out; congr 1; omega, by rw [Int.natCast_add, Int.natCast_one, HE.out]; simp, by have := HQK.out; omega, HG8.out⟩
                    case measure => simp [intOf]; omega
            · have hfl := flight_cnt HBL.out
              rw [show (N - U).toNat = k by have := HQK.out; omega] at hfl
              have hfz : flightL U N L = z := by rw [hfl, HZ2.out]; have := HQK.out; omega
              have HFZ := Lib.hid hfz
              clear hfl hfz
              have bn_0 := H6.out.2.2.2.2.1.bx.c 0 (x := .int .i64 U) rfl
              have bn_1 := H6.out.2.2.2.2.1.bx.c 1 (x := .int .i64 N) rfl
              have bn_2 := H6.out.2.2.2.2.1.bx.c 2 (x := .slice p1 L.length q1) rfl
              have bn_l := H6.out.2.2.2.2.1.bx.lt
              have bb_0 := H6.out.2.1.bx.c 0 (x := .int .i64 U) rfl
              have bb_1 := H6.out.2.1.bx.c 1 (x := .int .i64 N) rfl
              have bb_2 := H6.out.2.1.bx.c 2 (x := .slice ao l.length co) rfl
              have bb_l := H6.out.2.1.bx.lt
              go_wp2_with fail
              refine (bd_yes_impl (bd_yes HBL.out) _ (H6.out.2.2.2.2.1.rg)).mono ?_
              rintro e v9 ⟨rfl, hg⟩
              have H7 := Lib.hid (And.intro (H6.out.1.kept hg) (And.intro (H6.out.2.1.keep hg) (And.intro (H6.out.2.2.1.kept hg) (And.intro (H6.out.2.2.2.1.kept hg) (And.intro (H6.out.2.2.2.2.1.keep hg) (And.intro (H6.out.2.2.2.2.2.1.keep hg) (And.intro (H6.out.2.2.2.2.2.2.1.keep hg) (grownBy_trans (H6.out.2.2.2.2.2.2.2) hg))))))))
              clear hg
              clear bn_0 bn_1 bn_2 bn_l bb_0 bb_1 bb_2 bb_l
              have bn_0 := H7.out.2.2.2.2.1.bx.c 0 (x := .int .i64 U) rfl
              have bn_1 := H7.out.2.2.2.2.1.bx.c 1 (x := .int .i64 N) rfl
              have bn_2 := H7.out.2.2.2.2.1.bx.c 2 (x := .slice p1 L.length q1) rfl
              have bn_l := H7.out.2.2.2.2.1.bx.lt
              go_wp2_with fail
              refine (flight_at HFZ.out _ (H7.out.2.2.2.2.1.rg)).mono ?_
              rintro e v10 ⟨rfl, hg⟩
              have H8 := Lib.hid (And.intro (H7.out.1.kept hg) (And.intro (H7.out.2.1.keep hg) (And.intro (H7.out.2.2.1.kept hg) (And.intro (H7.out.2.2.2.1.kept hg) (And.intro (H7.out.2.2.2.2.1.keep hg) (And.intro (H7.out.2.2.2.2.2.1.keep hg) (And.intro (H7.out.2.2.2.2.2.2.1.keep hg) (grownBy_trans (H7.out.2.2.2.2.2.2.2) hg))))))))
              clear hg
              clear bn_0 bn_1 bn_2 bn_l
              have hze2 : (z == z) = true := by simp
              go_wp2_with fail
              go_ret
              first | exact ⟨rfl, below_new (H8.out.2.2.2.2.2.2.2)⟩ | exact ⟨by simp, below_new (H8.out.2.2.2.2.2.2.2)⟩

set_option maxRecDepth 100000 in
theorem lifted (os : Os) (started : os.Started) (H : Type) (enc : TypeId × Value → H) :
    ReturnsInHanded {} Try.checked os 4 .any (Rows.fnSackedSpec.pre6 enc Try.prog Try.f4 Rows.fnSackedRow.domain false) (Rows.fnSackedSpec.post enc Try.prog Try.f4 false true false false) := by
  refine returnsInHanded_of_change (C := Try.checked) own started (by kernel_rfl) Try.func4
    (ChangeSpec.witness6 (enc := enc) (C := Try.checked) false ⟨#[], #[.slice none 0 0], []⟩ 8 (by kernel_rfl) (by kernel_rfl) (by kernel_rfl) (by kernel_rfl)) ?_
  intro W base args ds gs before hval0 hW hcnd _
  have hval : ∀ (j : Nat) t v, Try.f4.params[j]? = some t → args[j]? = some v → Value.okWide Try.prog W .any base t v := hval0
  have hW' := hW
  obtain ⟨p, q, hA0, hV, rfl, hfz, hnd⟩ := hW
  have hA : DataW.TrodAll enc Try.prog W 0 (fun _ => true) true Try.f4.params.toList args.toList ds p := hA0
  rw [Try.params4] at hA hval
  obtain ⟨v0, vs0, d0, ds0, p0, q0, hargs, rfl, rfl, h0, r0⟩ := trodAll_cons hA
  obtain ⟨rfl, rfl, rfl⟩ := trodAll_nil r0
  obtain rfl : args = #[v0] := by cases args; simp_all
  obtain ⟨rfl, rfl⟩ := trodVars_none hV
  have k0 := h0
  have lt0 : ∀ x ∈ p0, x.block < W.heap.size := by obtain ⟨m, hm⟩ := k0; exact DataW.trod_lt m _ _ _ hm
  obtain ⟨a0, len0, cap0, rfl⟩ := okWide_slice Try.underlying22 (hval 0 22 v0 rfl rfl)
  obtain ⟨z0, w0⟩ : ∃ zs, IsRow .u8 W a0 len0 cap0 zs := by
    obtain ⟨fuel, hf⟩ := h0
    rcases open_ints Try.underlying22 Try.underlying5 (by kernel_rfl) hf with ⟨hcs, _⟩ | ⟨x, l, c, zs, hcs, _, hl, hm, hz, _, hcell, hwz⟩
    · simp [Value.cells] at hcs
      obtain ⟨rfl, rfl, rfl⟩ := hcs
      exact ⟨[], .inl ⟨rfl, rfl, rfl, rfl⟩⟩
    · simp [Value.cells] at hcs
      obtain ⟨rfl, rfl, rfl⟩ := hcs
      exact ⟨zs, .inr ⟨_, rfl, hl, hm, by simpa using hz, hcell, hwz⟩⟩
  clear hA0 hval0
  refine (walk a0 len0 cap0 z0 W w0).mono fun e W' ⟨he, bel⟩ => ?_
  subst he
  exact ⟨_, rfl, _, _, _, [], _, [], hW', trodAll_mk1 (shut_bool Try.underlying4 _), (trodAll_cons_mk (Below.trod laidOut (by kernel_rfl) (of_decide_eq_true (by kernel_rfl)) k0 bel lt0) trodAll_mk0), rfl, bel.frame _, fun h => by cases h⟩

theorem over : Rows.fnSackedRow.holds Try.pinned (OpenSpec.ofChange Rows.fnSackedSpec) :=
  OpenClaim.holds_of_wide 4 Try.f4 rfl rfl rfl rfl rfl rfl rfl ⟨rfl, rfl, rfl, rfl, rfl⟩ rfl rfl rfl rfl rfl (by kernel_rfl) Try.func4 (by kernel_rfl)
    (of_decide_eq_true (by kernel_rfl)) (by unfold Func.isWrapper; first | (rw [if_pos (by decide +kernel)]; kernel_rfl) | (rw [if_neg (by decide +kernel)]; exact ⟨rfl, rfl⟩))
    (fun os started H enc _ => lifted os started H enc)

theorem proved : Rows.FnSackedSaid := over
end Go.Proofs.Ytedgfiagefhahaa.fnSacked
