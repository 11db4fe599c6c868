/- Cubes: the drawings of arguments. -/
import Derived.Test.YtaemjijkolnheaaCbW
namespace Go.Proofs.Ytaemjijkolnheaa
open Go.RowKit

def Draw1Post (w : World) (e : Ending) (w' : World) : Prop :=
  ∃ u : Int, (Lit.int .i64 u).wf = true ∧ e = .returned (.int .i64 u) ∧ w.grownBy w' none

set_option maxRecDepth 100000 in
set_option maxHeartbeats 1000000 in
theorem draw_k (a : Option Addr) (n c : Nat) (w : World) (h : CodeIn w a n) : Calls Try.prog 15 #[.slice a n c] w (Draw1Post w) := by
  have H := Lib.hid h
  clear h
  go_enter Try.func15, Try.ntmps15
  go_wp2_with fail
  refine (open_any _ _ _ _ H.out).mono ?_
  rintro e w1 ⟨rfl, hg, hr⟩
  have HG := Lib.hid (And.intro hg hr)
  clear hg hr
  go_wp2_with fail
  refine (off_w _ _ _ _ HG.out.2 (by omega) (wf_of (by omega) (by omega))).mono ?_
  rintro e w2 ⟨u, hu, rfl, hg, hr⟩
  have HG2 := Lib.hid (And.intro hu (grownBy_new HG.out.1 hg (Nat.le_refl _)))
  clear hg hr hu
  go_wp2_with fail
  go_ret
  exact ⟨u, HG2.out.1, rfl, HG2.out.2⟩

set_option maxRecDepth 100000 in
set_option maxHeartbeats 1000000 in
theorem draw_w (a : Option Addr) (n c : Nat) (w : World) (h : CodeIn w a n) : Calls Try.prog 13 #[.slice a n c] w (Draw2Post w) := by
  have H := Lib.hid h
  clear h
  go_enter Try.func13, Try.ntmps13
  go_wp2_with fail
  refine (open_any _ _ _ _ H.out).mono ?_
  rintro e w1 ⟨rfl, hg, hr⟩
  have HG := Lib.hid (And.intro hg hr)
  clear hg hr
  go_wp2_with fail
  refine (off_w _ _ _ _ HG.out.2 (by omega) (wf_of (by omega) (by omega))).mono ?_
  rintro e w2 ⟨u, hu, rfl, hg, hr⟩
  have HG2 := Lib.hid (And.intro hu (And.intro (grownBy_new HG.out.1 hg (Nat.le_refl _)) hr))
  clear hg hr hu
  go_wp2_with fail
  refine (off_w _ _ _ _ HG2.out.2.2 (by omega) (wf_of (by omega) (by omega))).mono ?_
  rintro e w3 ⟨v, hv, rfl, hg, hr⟩
  have HG3 := Lib.hid (And.intro hv (grownBy_new HG2.out.2.1 hg (Nat.le_refl _)))
  clear hg hr hv
  go_wp2_with fail
  go_ret2
  exact ⟨u, v, HG2.out.1, HG3.out.1, rfl, HG3.out.2⟩

set_option maxRecDepth 100000 in
set_option maxHeartbeats 1000000 in
theorem draw_root (a : Option Addr) (n c : Nat) (w : World) (h : CodeIn w a n) : Calls Try.prog 10 #[.slice a n c] w (Draw1Post w) := by
  have H := Lib.hid h
  clear h
  go_enter Try.func10, Try.ntmps10
  go_wp2_with fail
  refine (open_any _ _ _ _ H.out).mono ?_
  rintro e w1 ⟨rfl, hg, hr⟩
  have HG := Lib.hid (And.intro hg hr)
  clear hg hr
  go_wp2_with fail
  refine (below_any _ _ _ HG.out.2 (by omega)).mono ?_
  rintro e w2 ⟨m, m0, m1, rfl, hg, hr⟩
  rw [if_neg (by omega)] at m1
  have HG2 := Lib.hid (And.intro (grownBy_new HG.out.1 hg (Nat.le_refl _)) hr)
  clear hg hr
  have hb := cb_bd (show 0 ≤ m by omega) (show m ≤ 100 by omega)
  have s1 : IntKind.i64.wrap (m * m) = m * m := IntWalk.i64_in _ (by omega)
  have s2 : IntKind.i64.wrap (m * m * m) = m * m * m := IntWalk.i64_in _ (by omega)
  have s3 : IntKind.i64.wrap (m * m * m - 1) = m * m * m - 1 := IntWalk.i64_in _ (by omega)
  have HB := Lib.hid hb
  clear hb
  go_wp2_with fail
  refine (below_any _ _ _ HG2.out.2 (by omega)).mono ?_
  rintro e w3 ⟨v, v0, v1, rfl, hg, hr⟩
  rw [if_neg (by omega)] at v1
  have HG3 := Lib.hid (And.intro (grownBy_new HG2.out.1 hg (Nat.le_refl _)) hr)
  clear hg hr
  by_cases h0 : v = 0
  · subst h0
    go_wp2_with fail
    go_ret
    exact ⟨m * m * m, wf_small (by have := HB.out; omega) (by have := HB.out; omega), rfl, HG3.out.1⟩
  · by_cases h1 : v = 1
    · subst h1
      go_wp2_with fail
      go_ret
      exact ⟨m * m * m - 1, wf_small (by have := HB.out; omega) (by have := HB.out; omega), rfl, HG3.out.1⟩
    · by_cases h2 : v = 2
      · subst h2
        go_wp2_with fail
        refine (off_w _ _ _ _ HG3.out.2 (by omega) (wf_of (by omega) (by omega))).mono ?_
        rintro e w4 ⟨u, hu, rfl, hg, hr⟩
        have HG4 := Lib.hid (And.intro hu (grownBy_new HG3.out.1 hg (Nat.le_refl _)))
        clear hg hr hu
        go_wp2_with fail
        go_ret
        exact ⟨u, HG4.out.1, rfl, HG4.out.2⟩
      · go_wp2_with fail
        refine (below_any _ _ _ HG3.out.2 (by omega)).mono ?_
        rintro e w4 ⟨u, u0, u1, rfl, hg, hr⟩
        rw [if_neg (by omega)] at u1
        have HG4 := Lib.hid (grownBy_new HG3.out.1 hg (Nat.le_refl _))
        clear hg hr
        go_wp2_with fail
        go_ret
        exact ⟨u, wf_small (by omega) (by omega), rfl, HG4.out⟩

end Go.Proofs.Ytaemjijkolnheaa
