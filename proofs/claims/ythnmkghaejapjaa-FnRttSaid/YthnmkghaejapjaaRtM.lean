/- Clocks: what is measured: the program's and the model's step without the range. -/
import Derived.Test.YthnmkghaejapjaaRtS
namespace Go.Proofs.Ythnmkghaejapjaa
open Go.RowKit

theorem rt_facts {h : Bool} {m v r ms : Int} (k : rtOk h m v r = true) (k2 : 0 ≤ ms ∧ ms ≤ 60000) : 0 ≤ rtM h m ms ∧ rtM h m ms ≤ 480000 ∧ 0 ≤ rtV h m v ms ∧ rtV h m v ms ≤ 480000 := by
  obtain ⟨_, _, h1, h2, h3, h4, h5⟩ := rt_of k
  cases h
  · simp [rtM, rtV]; omega
  · simp only [rtM, rtV, rtA, if_true]; split <;> omega
theorem rt_split (M V : Int) : (V < 1 ∧ M / 8 + 1 < 200 ∧ rtR M V = 200) ∨ (V < 1 ∧ 60000 < M / 8 + 1 ∧ ¬ M / 8 + 1 < 200 ∧ rtR M V = 60000) ∨ (V < 1 ∧ ¬ M / 8 + 1 < 200 ∧ ¬ 60000 < M / 8 + 1 ∧ rtR M V = M / 8 + 1) ∨ (¬ V < 1 ∧ M / 8 + V < 200 ∧ rtR M V = 200) ∨ (¬ V < 1 ∧ 60000 < M / 8 + V ∧ ¬ M / 8 + V < 200 ∧ rtR M V = 60000) ∨ (¬ V < 1 ∧ ¬ M / 8 + V < 200 ∧ ¬ 60000 < M / 8 + V ∧ rtR M V = M / 8 + V) := by
  unfold rtR; repeat' split
  all_goals simp; omega

set_option maxRecDepth 100000 in
set_option maxHeartbeats 2000000 in
theorem rt_meas (h : Bool) (m v r ms M V R : Int) (w : World) (k : rtOk h m v r = true) (k2 : 0 ≤ ms ∧ ms ≤ 60000) (hM : rtM h m ms = M) (hV : rtV h m v ms = V) (hR : rtR M V = R) : Calls Try.prog 35 #[rtV4 h m v r, .int .i64 ms] w fun e w' => e = .returned (rtV4 true M V R) ∧ w' = (w.alloc (.cells #[.bool true, .int .i64 M, .int .i64 V, .int .i64 R] 25)).alloc (.cells #[.bool true, .int .i64 M, .int .i64 V, .int .i64 R] 25) := by
  obtain ⟨f1, f2, f3, f4⟩ := rt_facts k k2
  obtain ⟨_, _, h1, h2, h3, h4, h5⟩ := rt_of k
  rw [hM] at f1 f2
  rw [hV] at f3 f4
  have hs1 : IntKind.i64.wrap (M / 8 + V) = M / 8 + V := IntWalk.i64_in _ (by omega)
  have hs2 : IntKind.i64.wrap (M / 8 + 1) = M / 8 + 1 := IntWalk.i64_in _ (by omega)
  have hm8 : IntKind.i64.wrap (M.tdiv 8) = M / 8 := by rw [Int.tdiv_eq_ediv_of_nonneg (by omega)]; exact IntWalk.i64_in _ (by omega)
  have hsp := rt_split M V
  rw [hR] at hsp
  clear hR
  cases h
  · simp only [rtM, rtV, if_false, Bool.false_eq_true] at hM hV
    have w8 : IntKind.i64.wrap (8 * ms) = M := by rw [hM]; exact IntWalk.i64_in _ (by omega)
    have w2 : IntKind.i64.wrap (2 * ms) = V := by rw [hV]; exact IntWalk.i64_in _ (by omega)
    clear hM hV
    unfold rtV4
    rcases hsp with ⟨q1, q2, rfl⟩ | ⟨q1, q2, q3, rfl⟩ | ⟨q1, q2, q3, rfl⟩ | ⟨q1, q2, rfl⟩ | ⟨q1, q2, q3, rfl⟩ | ⟨q1, q2, q3, rfl⟩
    all_goals
      go_enter Try.func35, Try.ntmps35
      go_wp2
      refine bodyPost_ret (v := rtV4 true M V _) (by simp [results, Try.results35, go_sem, rtV4]) rfl ⟨rfl, rfl⟩
  · simp only [rtM, rtV, if_true] at hM hV
    obtain ⟨D, hD⟩ : ∃ D, D = ms - m / 8 := ⟨_, rfl⟩
    obtain ⟨A, hA⟩ : ∃ A, A = rtA m ms := ⟨_, rfl⟩
    have hA2 : A = if D < 0 then -D else D := by rw [hA, hD]; rfl
    rw [← hD] at hM
    rw [← hA] at hV
    have bD : -60000 ≤ D ∧ D ≤ 60000 := by omega
    have bA : 0 ≤ A ∧ A ≤ 60000 := by rw [hA2]; split <;> omega
    have wn : IntKind.i64.wrap (-D) = -D := IntWalk.i64_in _ (by omega)
    have wm : IntKind.i64.wrap (m + D) = M := by rw [hM]; exact IntWalk.i64_in _ (by omega)
    have wv4 : IntKind.i64.wrap (v.tdiv 4) = v / 4 := (rt_m8 k).2
    have wm8 : IntKind.i64.wrap (m.tdiv 8) = m / 8 := (rt_m8 k).1
    have wd : IntKind.i64.wrap (ms - m / 8) = D := by rw [hD]; exact IntWalk.i64_in _ (by omega)
    have wa : IntKind.i64.wrap (A - v / 4) = A - v / 4 := IntWalk.i64_in _ (by omega)
    have wb : IntKind.i64.wrap (v + (A - v / 4)) = V := by rw [← hV, show v + (A - v / 4) = v + A - v / 4 by omega]; exact IntWalk.i64_in _ (by omega)
    clear hM hV hA hD
    unfold rtV4
    have hcase : (D < -D ∧ A = -D ∧ D < 0 ∧ ¬ -D < D) ∨ (¬ D < -D ∧ A = D ∧ ¬ D < 0 ∧ ¬ D < -D) := by rw [hA2]; split <;> omega
    clear hA2
    rcases hcase with ⟨z1, rfl, z3, z4⟩ | ⟨z1, rfl, z3, z4⟩
    all_goals
      rcases hsp with ⟨q1, q2, rfl⟩ | ⟨q1, q2, q3, rfl⟩ | ⟨q1, q2, q3, rfl⟩ | ⟨q1, q2, rfl⟩ | ⟨q1, q2, q3, rfl⟩ | ⟨q1, q2, q3, rfl⟩
      all_goals
        go_enter Try.func35, Try.ntmps35
        go_wp2
        refine bodyPost_ret (v := rtV4 true M V _) (by simp [results, Try.results35, go_sem, rtV4]) rfl ⟨rfl, rfl⟩

end Go.Proofs.Ythnmkghaejapjaa
