/- Clocks: the drawings of arguments. -/
import Derived.Test.YthnmkghaejapjaaRtD
namespace Go.Proofs.Ythnmkghaejapjaa
open Go.RowKit

def RtDPost (w : World) (e : Ending) (w' : World) : Prop :=
  ∃ (h : Bool) (m v q : Int), e = .returned (.agg #[.bool h, .int .i64 m, .int .i64 v, .int .i64 q]) ∧ w.grownBy w' none

set_option maxRecDepth 100000 in
set_option maxHeartbeats 4000000 in
theorem draw_ok (a : Option Addr) (n c : Nat) (w : World) (h : CodeIn w a n) : Calls Try.prog 12 #[.slice a n c] w (RtDPost w) := by
  have H := Lib.hid h
  clear h
  go_enter Try.func12, Try.ntmps12
  go_wp2_with fail
  refine (open_any _ _ _ _ (H.out.kept (World.grownBy_alloc _ _ _))).mono ?_
  rintro e w1 ⟨rfl, hg, hr⟩
  have hA := (Box4.new w 25 (.bool false) (.int .i64 0) (.int .i64 0) (.int .i64 0)).kept hg (by simp)
  have H1 := Lib.hid (And.intro (grownBy_trans (World.grownBy_alloc _ _ _) hg) (And.intro hr hA))
  clear hg hr hA
  go_wp2_with fail
  refine (rtt_draw _ _ (by first | exact H1.out.2.1 | (have := H1.out.2.1; simp at this; exact this))).mono ?_
  rintro e w2 ⟨hh, m, v, q, rfl, hg, hr⟩
  have hsz := H1.out.2.2.lt
  have hA := H1.out.2.2.kept hg (by simp)
  have hlt := hA.lt
  have H2 := Lib.hid (And.intro (grownBy_new H1.out.1 hg (by simp)) (And.intro hr hA))
  have HB := Lib.hid (Box4.new w2 25 (.bool hh) (.int .i64 m) (.int .i64 v) (.int .i64 q))
  have hrl := hr.lt
  clear hg hr hA
  go_wp2_with fail
  refine (once_any _ _ _ (H2.out.2.1.alloc _) (by omega) (by omega)).mono ?_
  rintro e w4 ⟨bb, rfl, hg, hr⟩
  have hA := (H2.out.2.2.alloc (.cells #[.bool hh, .int .i64 m, .int .i64 v, .int .i64 q] 25)).kept hg (by simp)
  have hB := HB.out.kept hg (by simp at hrl ⊢; omega)
  have hG := grownBy_new (grownBy_trans H2.out.1 (World.grownBy_alloc _ _ _)) hg (by simp)
  clear hg hr
  generalize hE : w2.heap.size = E at *
  have ne1 : ¬ E = w.heap.size := by omega
  have ne2 : ¬ w.heap.size = E := by omega
  have HG := Lib.hid hG
  have HA := Lib.hid hA
  have HE := Lib.hid hB
  clear hG hA hB H2 HB
  have z0 := HA.out.c0
  have z1 := HA.out.c1
  have z2 := HA.out.c2
  have z3 := HA.out.c3
  have g0 := HA.out.f0 0
  have g1 := HA.out.f0 1
  have g2 := HA.out.f0 2
  have g3 := HA.out.f0 3
  have b0 := HE.out.c0
  have b1 := HE.out.c1
  have b2 := HE.out.c2
  have b3 := HE.out.c3
  have f0 := HE.out.f0 0
  cases bb
  · go_wp2_with fail
    exact bodyPost_ret (v := .agg #[.bool hh, .int .i64 m, .int .i64 v, .int .i64 q]) (by simp [results, Try.results12, go_sem, z0, z1, z2, z3]) rfl ⟨hh, m, v, q, rfl, grown_set (grown_set (grown_set (grown_set HG.out (Nat.le_refl _) _ _) (Nat.le_refl _) _ _) (Nat.le_refl _) _ _) (Nat.le_refl _) _ _⟩
  · have hne : w.heap.size ≤ E := by omega
    have k0 := (HA.out.other1 ne2 0 (.bool (!hh))).c0
    have l0 := (HA.out.other1 ne2 0 (.bool (!hh))).f0 0
    have l1 := (HA.out.other1 ne2 0 (.bool (!hh))).f0 1
    have l2 := (HA.out.other1 ne2 0 (.bool (!hh))).f0 2
    have l3 := (HA.out.other1 ne2 0 (.bool (!hh))).f0 3
    go_wp2_with fail
    exact bodyPost_ret (v := .agg #[.bool (!hh), .int .i64 m, .int .i64 v, .int .i64 q]) (by simp [results, Try.results12, go_sem, k0, z1, z2, z3]) rfl ⟨!hh, m, v, q, rfl, grown_set (grown_set (grown_set (grown_set (grown_set HG.out hne _ _) (Nat.le_refl _) _ _) (Nat.le_refl _) _ _) (Nat.le_refl _) _ _) (Nat.le_refl _) _ _⟩

set_option maxRecDepth 100000 in
set_option maxHeartbeats 4000000 in
theorem draw_late (a : Option Addr) (n c : Nat) (w : World) (h : CodeIn w a n) : Calls Try.prog 13 #[.slice a n c] w (RtDPost w) := by
  have H := Lib.hid h
  clear h
  go_enter Try.func13, Try.ntmps13
  go_wp2_with fail
  refine (draw_ok _ _ _ _ (H.out.kept (World.grownBy_alloc _ _ _))).mono ?_
  rintro e w1 ⟨hh, m, v, q, rfl, hg⟩
  have HA := Lib.hid ((Box4.new w 25 (.bool false) (.int .i64 0) (.int .i64 0) (.int .i64 0)).kept hg (by simp))
  have HG := Lib.hid (grownBy_trans (World.grownBy_alloc _ _ _) hg)
  clear hg
  have z0 := HA.out.c0
  have z1 := HA.out.c1
  have z2 := HA.out.c2
  have z3 := HA.out.c3
  have g0 := HA.out.f0 0
  have g1 := HA.out.f0 1
  have g2 := HA.out.f0 2
  have g3 := HA.out.f0 3
  go_wp2_with fail
  exact bodyPost_ret (v := .agg #[.bool hh, .int .i64 m, .int .i64 v, .int .i64 q]) (by simp [results, Try.results13, go_sem, z0, z1, z2, z3]) rfl ⟨hh, m, v, q, rfl, grown_set (grown_set (grown_set (grown_set HG.out (Nat.le_refl _) _ _) (Nat.le_refl _) _ _) (Nat.le_refl _) _ _) (Nat.le_refl _) _ _⟩

def RtSPost (w : World) (e : Ending) (w' : World) : Prop :=
  ∃ (h : Bool) (m v q ms : Int), e = .returned (.tuple #[.agg #[.bool h, .int .i64 m, .int .i64 v, .int .i64 q], .int .i64 ms]) ∧ Near (-1) 501 ms ∧ w.grownBy w' none

set_option maxRecDepth 100000 in
set_option maxHeartbeats 4000000 in
theorem draw_step (a : Option Addr) (n c : Nat) (w : World) (h : CodeIn w a n) : Calls Try.prog 10 #[.slice a n c] w (RtSPost w) := by
  have H := Lib.hid h
  clear h
  go_enter Try.func10, Try.ntmps10
  go_wp2_with fail
  refine (open_any _ _ _ _ (H.out.kept (World.grownBy_alloc _ _ _))).mono ?_
  rintro e w1 ⟨rfl, hg, hr⟩
  have hA := (Box4.new w 25 (.bool false) (.int .i64 0) (.int .i64 0) (.int .i64 0)).kept hg (by simp)
  have H1 := Lib.hid (And.intro (grownBy_trans (World.grownBy_alloc _ _ _) hg) (And.intro hr hA))
  clear hg hr hA
  go_wp2_with fail
  refine (rtt_draw _ _ (by first | exact H1.out.2.1 | (have := H1.out.2.1; simp at this; exact this))).mono ?_
  rintro e w2 ⟨hh, m, v, q, rfl, hg, hr⟩
  have hA := H1.out.2.2.kept hg (by simp)
  have hlt := hA.lt
  have hrl := hr.lt
  have H2 := Lib.hid (And.intro (grownBy_trans (grownBy_new H1.out.1 hg (by simp)) (World.grownBy_alloc w2 (.cells #[.bool hh, .int .i64 m, .int .i64 v, .int .i64 q] 25) none)) (And.intro (hr.alloc (.cells #[.bool hh, .int .i64 m, .int .i64 v, .int .i64 q] 25)) (And.intro (hA.alloc (.cells #[.bool hh, .int .i64 m, .int .i64 v, .int .i64 q] 25)) (Box4.new w2 25 (.bool hh) (.int .i64 m) (.int .i64 v) (.int .i64 q)))))
  clear hg hr hA
  go_wp2_with fail
  have b0 := H2.out.2.2.2.c0
  have b1 := H2.out.2.2.2.c1
  have b2 := H2.out.2.2.2.c2
  have b3 := H2.out.2.2.2.c3
  go_region_with (first | (go_at_call 26; refine (off_any _ _ _ _ ?_ (by omega) (by omega) (by omega)).mono ?_; exact H2.out.2.1; rintro e w4 ⟨p, hp, rfl, hg, hr⟩; have hg := (show (w2.alloc (.cells #[.bool hh, .int .i64 m, .int .i64 v, .int .i64 q] 25)).grownBy w4 (some (w.heap.size + 1)) from by first | simpa using hg | simpa using grownBy_trans grownBy_drew hg); have HG := Lib.hid (grownBy_new H2.out.1 hg (by simp)); have HA := Lib.hid (H2.out.2.2.1.kept hg (by simp)); have HE := Lib.hid (H2.out.2.2.2.kept hg (by simp at hrl ⊢; omega)); clear hg hr; have z0 := HA.out.c0; have z1 := HA.out.c1; have z2 := HA.out.c2; have z3 := HA.out.c3; have g0 := HA.out.f0 0; have g1 := HA.out.f0 1; have g2 := HA.out.f0 2; have g3 := HA.out.f0 3; have e0 := HE.out.c0; have e1 := HE.out.c1; have e2 := HE.out.c2; have e3 := HE.out.c3))
  all_goals
    have HP := Lib.hid hp
    clear hp
    simp only [List.getElem_toArray, List.getElem_cons_zero, List.getElem_cons_succ, Act.put]
    go_wp2_with fail
    exact bodyPost_ret (v := .tuple #[.agg #[.bool hh, .int .i64 m, .int .i64 v, .int .i64 q], .int .i64 p]) (by simp [results, Try.results10, go_sem, z0, z1, z2, z3]) rfl ⟨hh, m, v, q, p, rfl, by simpa using HP.out, grown_set (grown_set (grown_set (grown_set HG.out (Nat.le_refl _) _ _) (Nat.le_refl _) _ _) (Nat.le_refl _) _ _) (Nat.le_refl _) _ _⟩

end Go.Proofs.Ythnmkghaejapjaa
