/- Clocks: the model's step. -/
import Derived.Test.YthnmkghaejapjaaRtM
namespace Go.Proofs.Ythnmkghaejapjaa
open Go.RowKit

set_option maxRecDepth 100000 in
set_option maxHeartbeats 2000000 in
theorem rt_step_no (m v r ms M V R : Int) (w : World) (k : rtOk false m v r = true) (k2 : 0 ≤ ms ∧ ms ≤ 60000) (hM : rtM false m ms = M) (hV : rtV false m v ms = V) (hR : rtR M V = R) : Calls Try.prog 14 #[rtV4 false m v r, .int .i64 ms] w fun e w' => e = .returned (rtV4 true M V R) ∧ w.grownBy w' none := by
  obtain ⟨f1, f2, f3, f4⟩ := rt_facts k k2
  obtain ⟨_, _, h1, h2, h3, h4, -⟩ := rt_of k
  rw [hM] at f1 f2
  rw [hV] at f3 f4
  have hin : inB ms 0 60000 = true := by simp [inB]; omega
  have hm8 : IntKind.i64.wrap (M.tdiv 8) = M / 8 := by rw [Int.tdiv_eq_ediv_of_nonneg (by omega)]; exact IntWalk.i64_in _ (by omega)
  have hrto := fun w => rt_rto M V (M / 8) w hm8 (by omega) (by omega) rfl
  have hok := fun w => rt_ok_spec false m v r w
  rw [k] at hok
  rw [hR] at hrto
  clear hR
  simp only [rtM, rtV, if_false, Bool.false_eq_true] at hM hV
  have w8 : IntKind.i64.wrap (8 * ms) = M := by rw [hM]; exact IntWalk.i64_in _ (by omega)
  have w2 : IntKind.i64.wrap (2 * ms) = V := by rw [hV]; exact IntWalk.i64_in _ (by omega)
  clear hM hV
  unfold rtV4 at hok ⊢
  go_enter Try.func14, Try.ntmps14
  go_wp2_with fail
  refine (hok _).mono ?_
  rintro e w1 ⟨rfl, rfl⟩
  clear hok
  go_wp2_with fail
  refine (in_any _ _ _ _).mono ?_
  rw [hin]
  rintro e w1 ⟨rfl, rfl⟩
  clear hin
  go_wp2_with fail
  refine (hrto _).mono ?_
  rintro e w1 ⟨rfl, rfl⟩
  clear hrto
  go_wp2_with fail
  exact bodyPost_ret (v := rtV4 true M V R) (by simp [results, Try.results14, go_sem, rtV4]) rfl ⟨rfl, by first | exact ga4 _ _ _ _ _ | exact ga3 _ _ _ _⟩
set_option maxRecDepth 100000 in
set_option maxHeartbeats 2000000 in
theorem rt_step_has (m v r ms M V R : Int) (w : World) (k : rtOk true m v r = true) (k2 : 0 ≤ ms ∧ ms ≤ 60000) (hM : rtM true m ms = M) (hV : rtV true m v ms = V) (hR : rtR M V = R) : Calls Try.prog 14 #[rtV4 true m v r, .int .i64 ms] w fun e w' => e = .returned (rtV4 true M V R) ∧ w.grownBy w' none := by
  obtain ⟨f1, f2, f3, f4⟩ := rt_facts k k2
  obtain ⟨_, _, h1, h2, h3, h4, -⟩ := rt_of k
  rw [hM] at f1 f2
  rw [hV] at f3 f4
  have hin : inB ms 0 60000 = true := by simp [inB]; omega
  have hm8 : IntKind.i64.wrap (M.tdiv 8) = M / 8 := by rw [Int.tdiv_eq_ediv_of_nonneg (by omega)]; exact IntWalk.i64_in _ (by omega)
  have hrto := fun w => rt_rto M V (M / 8) w hm8 (by omega) (by omega) rfl
  have hok := fun w => rt_ok_spec true m v r w
  rw [k] at hok
  rw [hR] at hrto
  clear hR
  simp only [rtM, rtV, if_true] at hM hV
  obtain ⟨D, hD⟩ : ∃ D, D = ms - m / 8 := ⟨_, rfl⟩
  obtain ⟨A, hA⟩ : ∃ A, A = rtA m ms := ⟨_, rfl⟩
  have hA2 : A = if D < 0 then -D else D := by rw [hA, hD]; rfl
  rw [← hD] at hM
  rw [← hA] at hV
  have bD : -60000 ≤ D ∧ D ≤ 60000 := by omega
  have bA : 0 ≤ A ∧ A ≤ 60000 := by rw [hA2]; split <;> omega
  have w8 : IntKind.i64.wrap (8 * ms) = 8 * ms := IntWalk.i64_in _ (by omega)
  have w2 : IntKind.i64.wrap (2 * ms) = 2 * ms := IntWalk.i64_in _ (by omega)
  have wn : IntKind.i64.wrap (-D) = -D := IntWalk.i64_in _ (by omega)
  have wm : IntKind.i64.wrap (m + D) = M := by rw [hM]; exact IntWalk.i64_in _ (by omega)
  have wv4 : IntKind.i64.wrap (v.tdiv 4) = v / 4 := (rt_m8 k).2
  have wm8 : IntKind.i64.wrap (m.tdiv 8) = m / 8 := (rt_m8 k).1
  have wd : IntKind.i64.wrap (ms - m / 8) = D := by rw [hD]; exact IntWalk.i64_in _ (by omega)
  have wa : IntKind.i64.wrap (v + A) = v + A := IntWalk.i64_in _ (by omega)
  have wb : IntKind.i64.wrap (v + A - v / 4) = V := by rw [← hV]; exact IntWalk.i64_in _ (by omega)
  clear hM hV hA hD
  unfold rtV4 at hok ⊢
  have hcase : (D < -D ∧ A = -D ∧ D < 0 ∧ ¬ -D < D) ∨ (¬ D < -D ∧ A = D ∧ ¬ D < 0 ∧ ¬ D < -D) := by rw [hA2]; split <;> omega
  clear hA2
  rcases hcase with ⟨z1, rfl, z3, z4⟩ | ⟨z1, rfl, z3, z4⟩
  all_goals
    go_enter Try.func14, Try.ntmps14
    go_wp2_with fail
    refine (hok _).mono ?_
    rintro e w1 ⟨rfl, rfl⟩
    clear hok
    go_wp2_with fail
    refine (in_any _ _ _ _).mono ?_
    rw [hin]
    rintro e w1 ⟨rfl, rfl⟩
    clear hin
    go_wp2_with fail
    refine (hrto _).mono ?_
    rintro e w1 ⟨rfl, rfl⟩
    clear hrto
    go_wp2_with fail
    exact bodyPost_ret (v := rtV4 true M V R) (by simp [results, Try.results14, go_sem, rtV4]) rfl ⟨rfl, by first | exact ga4 _ _ _ _ _ | exact ga3 _ _ _ _⟩

theorem rt_step_yes (h : Bool) (m v r ms M V R : Int) (w : World) (k : rtOk h m v r = true) (k2 : 0 ≤ ms ∧ ms ≤ 60000) (hM : rtM h m ms = M) (hV : rtV h m v ms = V) (hR : rtR M V = R) : Calls Try.prog 14 #[rtV4 h m v r, .int .i64 ms] w fun e w' => e = .returned (rtV4 true M V R) ∧ w.grownBy w' none := by
  cases h
  · exact rt_step_no m v r ms M V R w k k2 hM hV hR
  · exact rt_step_has m v r ms M V R w k k2 hM hV hR

set_option maxRecDepth 100000 in
set_option maxHeartbeats 2000000 in
theorem rt_step_spec (h : Bool) (m v r ms : Int) (w : World) : Calls Try.prog 14 #[rtV4 h m v r, .int .i64 ms] w fun e w' => e = .returned (rtStepV h m v r ms) ∧ w.grownBy w' none := by
  unfold rtStepV
  cases k : rtOk h m v r
  · rw [if_neg (by simp)]
    have hok := fun w => rt_ok_spec h m v r w
    rw [k] at hok
    unfold rtV4 at hok ⊢
    go_enter Try.func14, Try.ntmps14
    go_wp2_with (first | (go_at_call 16; refine (hok _).mono ?_; rintro e w1 ⟨rfl, rfl⟩))
    exact bodyPost_ret (v := rtV4 false 0 0 0) (by simp [results, Try.results14, go_sem, rtV4]) rfl ⟨rfl, ga3 _ _ _ _⟩
  · cases hin : inB ms 0 60000
    · have k2 := in_not hin
      rw [if_neg (fun q => k2 ⟨q.2.1, q.2.2⟩)]
      have hok := fun w => rt_ok_spec h m v r w
      rw [k] at hok
      unfold rtV4 at hok ⊢
      go_enter Try.func14, Try.ntmps14
      go_wp2_with (first | (go_at_call 16; refine (hok _).mono ?_; rintro e w1 ⟨rfl, rfl⟩) | (go_at_call 30; refine (in_any _ _ _ _).mono ?_; rw [hin]; rintro e w1 ⟨rfl, rfl⟩))
      exact bodyPost_ret (v := rtV4 false 0 0 0) (by simp [results, Try.results14, go_sem, rtV4]) rfl ⟨rfl, ga3 _ _ _ _⟩
    · have k2 := in_of hin
      rw [if_pos ⟨rfl, k2⟩]
      exact rt_step_yes h m v r ms _ _ _ w k k2 rfl rfl rfl

end Go.Proofs.Ythnmkghaejapjaa
