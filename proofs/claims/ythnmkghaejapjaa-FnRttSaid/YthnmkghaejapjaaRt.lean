/- Clocks: what is right, a step, a late one: the program's and the model's (the range over measures apart). -/
import Derived.Test.YthnmkghaejapjaaRd
namespace Go.Proofs.Ythnmkghaejapjaa
open Go.RowKit

def rtTop (h : Bool) : Int := if h then 480000 else 0
def rtOk (h : Bool) (m v r : Int) : Bool := decide (200 ≤ r ∧ r ≤ 60000 ∧ 0 ≤ m ∧ m ≤ rtTop h ∧ 0 ≤ v ∧ v ≤ rtTop h)
theorem rt_of {h : Bool} {m v r : Int} (k : rtOk h m v r = true) : 200 ≤ r ∧ r ≤ 60000 ∧ 0 ≤ m ∧ m ≤ 480000 ∧ 0 ≤ v ∧ v ≤ 480000 ∧ (h = false → m = 0 ∧ v = 0) := by
  cases h <;> simp [rtOk, rtTop] at k <;> simp <;> omega
def rtM (h : Bool) (m ms : Int) : Int := if h then m + (ms - m / 8) else 8 * ms
def rtA (m ms : Int) : Int := if ms - m / 8 < 0 then -(ms - m / 8) else ms - m / 8
def rtV (h : Bool) (m v ms : Int) : Int := if h then v + rtA m ms - v / 4 else 2 * ms
def rtR (M V : Int) : Int := if M / 8 + (if V < 1 then 1 else V) < 200 then 200 else if 60000 < M / 8 + (if V < 1 then 1 else V) then 60000 else M / 8 + (if V < 1 then 1 else V)
def rtL (r : Int) : Int := if 60000 < 2 * r then 60000 else 2 * r
def rtV4 (h : Bool) (m v r : Int) : Value := .agg #[.bool h, .int .i64 m, .int .i64 v, .int .i64 r]
def rtOn (h : Bool) (m v ms : Int) : Value := rtV4 true (rtM h m ms) (rtV h m v ms) (rtR (rtM h m ms) (rtV h m v ms))
def rtStepV (h : Bool) (m v r ms : Int) : Value := if rtOk h m v r = true ∧ 0 ≤ ms ∧ ms ≤ 60000 then rtOn h m v ms else rtV4 false 0 0 0
def rtLateV (h : Bool) (m v r : Int) : Value := if rtOk h m v r = true then rtV4 h m v (rtL r) else rtV4 false 0 0 0

set_option maxRecDepth 100000 in
set_option maxHeartbeats 1000000 in
theorem rt_ok_impl (h : Bool) (m v r : Int) (w : World) : Calls Try.prog 15 #[rtV4 h m v r] w fun e w' => e = .returned (.bool (rtOk h m v r)) ∧ w' = w.alloc (.cells #[.bool h, .int .i64 m, .int .i64 v, .int .i64 r] 25) := by
  unfold rtV4
  obtain ⟨t, ht⟩ : ∃ t, t = rtTop h := ⟨_, rfl⟩
  have e1 : rtOk h m v r = decide (200 ≤ r ∧ r ≤ 60000 ∧ 0 ≤ m ∧ m ≤ t ∧ 0 ≤ v ∧ v ≤ t) := by rw [ht]; rfl
  rw [e1]
  cases h
  all_goals
    simp only [rtTop, if_true, if_false, Bool.false_eq_true] at ht
    subst ht
    go_enter Try.func15, Try.ntmps15
    go_wp2
    all_goals
      go_ret
      refine ⟨ret_b ?_, rfl⟩
      rw [Bool.eq_iff_iff]
      simp
      omega

set_option maxRecDepth 100000 in
set_option maxHeartbeats 1000000 in
theorem rt_ok_spec (h : Bool) (m v r : Int) (w : World) : Calls Try.prog 16 #[rtV4 h m v r] w fun e w' => e = .returned (.bool (rtOk h m v r)) ∧ w' = w.alloc (.cells #[.bool h, .int .i64 m, .int .i64 v, .int .i64 r] 25) := by
  unfold rtV4
  have e1 : rtOk h m v r = decide (200 ≤ r ∧ r ≤ 60000 ∧ 0 ≤ m ∧ m ≤ rtTop h ∧ 0 ≤ v ∧ v ≤ rtTop h) := rfl
  rw [e1]
  cases g1 : inB r 200 60000
  · have k1 := in_not g1
    go_enter Try.func16, Try.ntmps16
    go_wp2_with (go_at_call 30; refine (in_any _ _ _ _).mono ?_; rintro e w' ⟨rfl, rfl⟩)
    go_ret
    exact ⟨ret_b (decide_eq_false (fun k => k1 ⟨k.1, k.2.1⟩)).symm, rfl⟩
  · have k1 := in_of g1
    cases h
    · go_enter Try.func16, Try.ntmps16
      go_wp2_with (go_at_call 30; refine (in_any _ _ _ _).mono ?_; rintro e w' ⟨rfl, rfl⟩)
      all_goals
        go_ret
        refine ⟨ret_b ?_, by first | rfl | simp_all⟩
        rw [Bool.eq_iff_iff]
        simp [rtTop]
        omega
    · cases g2 : inB m 0 480000
      · have k2 := in_not g2
        go_enter Try.func16, Try.ntmps16
        go_wp2_with (go_at_call 30; refine (in_any _ _ _ _).mono ?_; rintro e w' ⟨rfl, rfl⟩)
        go_ret
        exact ⟨ret_b (decide_eq_false (fun k => k2 ⟨k.2.2.1, k.2.2.2.1⟩)).symm, rfl⟩
      · have k2 := in_of g2
        go_enter Try.func16, Try.ntmps16
        go_wp2_with (go_at_call 30; refine (in_any _ _ _ _).mono ?_; rintro e w' ⟨rfl, rfl⟩)
        go_ret
        refine ⟨ret_b ?_, by first | rfl | simp_all⟩
        rw [Bool.eq_iff_iff]
        simp [rtTop, inB]
        omega

set_option maxRecDepth 100000 in
set_option maxHeartbeats 1000000 in
theorem rt_new_impl (w : World) : Calls Try.prog 19 #[] w fun e w' => e = .returned (rtV4 false 0 0 1000) ∧ w.grownBy w' none := by
  go_enter Try.func19, Try.ntmps19
  go_wp2
  exact bodyPost_ret (v := rtV4 false 0 0 1000) (by simp [results, Try.results19, go_sem, rtV4]) rfl ⟨rfl, by first | exact World.grownBy_alloc _ _ _ | exact World.grownBy.refl _ _⟩

set_option maxRecDepth 100000 in
set_option maxHeartbeats 1000000 in
theorem rt_new_spec (w : World) : Calls Try.prog 20 #[] w fun e w' => e = .returned (rtV4 false 0 0 1000) ∧ w.grownBy w' none := by
  go_enter Try.func20, Try.ntmps20
  go_wp2
  exact bodyPost_ret (v := rtV4 false 0 0 1000) (by simp [results, Try.results20, go_sem, rtV4]) rfl ⟨rfl, by first | exact World.grownBy_alloc _ _ _ | exact World.grownBy.refl _ _⟩

set_option maxRecDepth 100000 in
set_option maxHeartbeats 1000000 in
theorem rt_eq (h h' : Bool) (m v r m' v' r' : Int) (w : World) : Calls Try.prog 22 #[rtV4 h m v r, rtV4 h' m' v' r'] w fun e w' => e = .returned (.bool (decide (h = h' ∧ m = m' ∧ v = v' ∧ r = r'))) ∧ w.grownBy w' none := by
  unfold rtV4
  cases h <;> cases h'
  all_goals
    go_enter Try.func22, Try.ntmps22
    go_wp2
    all_goals
      go_ret
      refine ⟨ret_b ?_, grownBy_trans (World.grownBy_alloc _ _ _) (World.grownBy_alloc _ _ _)⟩
      rw [Bool.eq_iff_iff]
      simp_all

set_option maxRecDepth 100000 in
set_option maxHeartbeats 1000000 in
theorem rt_to (h : Bool) (m v r : Int) (w : World) : Calls Try.prog 23 #[rtV4 h m v r] w fun e w' => e = .returned (rtV4 h m v r) ∧ w.grownBy w' none := by
  unfold rtV4
  go_enter Try.func23, Try.ntmps23
  go_wp2
  exact bodyPost_ret (v := rtV4 h m v r) (by simp [results, Try.results23, go_sem, rtV4]) rfl ⟨rfl, grownBy_trans (World.grownBy_alloc _ _ _) (grownBy_trans (World.grownBy_alloc _ _ _) (World.grownBy_alloc _ _ _))⟩

end Go.Proofs.Ythnmkghaejapjaa
