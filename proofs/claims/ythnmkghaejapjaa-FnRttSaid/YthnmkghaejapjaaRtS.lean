/- Clocks: a late one, a measure: the program's and the model's. -/
import Derived.Test.YthnmkghaejapjaaRt
namespace Go.Proofs.Ythnmkghaejapjaa
open Go.RowKit

theorem rt_m8 {h : Bool} {m v r : Int} (k : rtOk h m v r = true) : IntKind.i64.wrap (m.tdiv 8) = m / 8 ∧ IntKind.i64.wrap (v.tdiv 4) = v / 4 := by
  obtain ⟨_, _, h1, h2, h3, h4, _⟩ := rt_of k
  constructor
  · rw [Int.tdiv_eq_ediv_of_nonneg h1]; exact IntWalk.i64_in _ (by omega)
  · rw [Int.tdiv_eq_ediv_of_nonneg h3]; exact IntWalk.i64_in _ (by omega)
theorem ga1 (w : World) (a : Obj) : w.grownBy (w.alloc a) none := World.grownBy_alloc _ _ _
theorem ga2 (w : World) (a b : Obj) : w.grownBy ((w.alloc a).alloc b) none := grownBy_trans (ga1 _ _) (ga1 _ _)
theorem ga3 (w : World) (a b c : Obj) : w.grownBy (((w.alloc a).alloc b).alloc c) none := grownBy_trans (ga2 _ _ _) (ga1 _ _)
theorem ga4 (w : World) (a b c d : Obj) : w.grownBy ((((w.alloc a).alloc b).alloc c).alloc d) none := grownBy_trans (ga3 _ _ _ _) (ga1 _ _)
theorem ga5 (w : World) (a b c d e : Obj) : w.grownBy (((((w.alloc a).alloc b).alloc c).alloc d).alloc e) none := grownBy_trans (ga4 _ _ _ _ _) (ga1 _ _)

set_option maxRecDepth 100000 in
set_option maxHeartbeats 1000000 in
theorem rt_late_impl (h : Bool) (m v r : Int) (w : World) : Calls Try.prog 17 #[rtV4 h m v r] w fun e w' => e = .returned (rtLateV h m v r) ∧ w.grownBy w' none := by
  cases g : rtOk h m v r
  · have e1 : rtLateV h m v r = rtV4 false 0 0 0 := if_neg (by rw [g]; decide)
    rw [e1]
    have hok := fun w => rt_ok_impl h m v r w
    rw [g] at hok
    unfold rtV4 at hok ⊢
    go_enter Try.func17, Try.ntmps17
    go_wp2_with (go_at_call 15; refine (hok _).mono ?_; rintro e w1 ⟨rfl, rfl⟩)
    exact bodyPost_ret (v := rtV4 false 0 0 0) (by simp [results, Try.results17, go_sem, rtV4]) rfl ⟨rfl, by first | exact ga3 _ _ _ _ | exact ga4 _ _ _ _ _⟩
  · obtain ⟨k1, k2, _⟩ := rt_of g
    have e1 : rtLateV h m v r = rtV4 h m v (rtL r) := if_pos g
    have hw : IntKind.i64.wrap (2 * r) = 2 * r := IntWalk.i64_in _ (by omega)
    have hok := fun w => rt_ok_impl h m v r w
    rw [g] at hok
    rw [e1]
    by_cases q : 2 * r < 60000
    · have q2 : 2 * r ≤ 60000 := by omega
      have q5 : ¬ 60000 < 2 * r := by omega
      have e2 : rtL r = 2 * r := if_neg q5
      rw [e2]
      unfold rtV4 at hok ⊢
      go_enter Try.func17, Try.ntmps17
      go_wp2_with (go_at_call 15; refine (hok _).mono ?_; rintro e w1 ⟨rfl, rfl⟩)
      exact bodyPost_ret (v := rtV4 h m v (2 * r)) (by simp [results, Try.results17, go_sem, rtV4]) rfl ⟨rfl, by first | exact ga3 _ _ _ _ | exact ga4 _ _ _ _ _⟩
    · by_cases q3 : 60000 < 2 * r
      · have q2 : ¬ 2 * r ≤ 60000 := by omega
        have e2 : rtL r = 60000 := if_pos q3
        rw [e2]
        unfold rtV4 at hok ⊢
        go_enter Try.func17, Try.ntmps17
        go_wp2_with (go_at_call 15; refine (hok _).mono ?_; rintro e w1 ⟨rfl, rfl⟩)
        exact bodyPost_ret (v := rtV4 h m v 60000) (by simp [results, Try.results17, go_sem, rtV4]) rfl ⟨rfl, by first | exact ga3 _ _ _ _ | exact ga4 _ _ _ _ _⟩
      · have q2 : 2 * r = 60000 := by omega
        have e2 : rtL r = 60000 := by unfold rtL; rw [if_neg q3, q2]
        rw [e2]
        rw [q2] at hw
        obtain rfl : r = 30000 := by omega
        unfold rtV4 at hok ⊢
        go_enter Try.func17, Try.ntmps17
        go_wp2_with (go_at_call 15; refine (hok _).mono ?_; rintro e w1 ⟨rfl, rfl⟩)
        exact bodyPost_ret (v := rtV4 h m v 60000) (by simp [results, Try.results17, go_sem, rtV4]) rfl ⟨rfl, by first | exact ga3 _ _ _ _ | exact ga4 _ _ _ _ _⟩

set_option maxRecDepth 100000 in
set_option maxHeartbeats 1000000 in
theorem rt_late_spec (h : Bool) (m v r : Int) (w : World) : Calls Try.prog 18 #[rtV4 h m v r] w fun e w' => e = .returned (rtLateV h m v r) ∧ w.grownBy w' none := by
  cases g : rtOk h m v r
  · have e1 : rtLateV h m v r = rtV4 false 0 0 0 := if_neg (by rw [g]; decide)
    rw [e1]
    have hok := fun w => rt_ok_spec h m v r w
    rw [g] at hok
    unfold rtV4 at hok ⊢
    go_enter Try.func18, Try.ntmps18
    go_wp2_with (go_at_call 16; refine (hok _).mono ?_; rintro e w1 ⟨rfl, rfl⟩)
    exact bodyPost_ret (v := rtV4 false 0 0 0) (by simp [results, Try.results18, go_sem, rtV4]) rfl ⟨rfl, by first | exact ga3 _ _ _ _ | exact ga4 _ _ _ _ _⟩
  · obtain ⟨k1, k2, _⟩ := rt_of g
    have e1 : rtLateV h m v r = rtV4 h m v (rtL r) := if_pos g
    have hw : IntKind.i64.wrap (2 * r) = 2 * r := IntWalk.i64_in _ (by omega)
    have hok := fun w => rt_ok_spec h m v r w
    rw [g] at hok
    rw [e1]
    by_cases q : 2 * r < 60000
    · have q2 : 2 * r ≤ 60000 := by omega
      have q5 : ¬ 60000 < 2 * r := by omega
      have e2 : rtL r = 2 * r := if_neg q5
      rw [e2]
      unfold rtV4 at hok ⊢
      go_enter Try.func18, Try.ntmps18
      go_wp2_with (go_at_call 16; refine (hok _).mono ?_; rintro e w1 ⟨rfl, rfl⟩)
      exact bodyPost_ret (v := rtV4 h m v (2 * r)) (by simp [results, Try.results18, go_sem, rtV4]) rfl ⟨rfl, by first | exact ga3 _ _ _ _ | exact ga4 _ _ _ _ _⟩
    · by_cases q3 : 60000 < 2 * r
      · have q2 : ¬ 2 * r ≤ 60000 := by omega
        have e2 : rtL r = 60000 := if_pos q3
        rw [e2]
        unfold rtV4 at hok ⊢
        go_enter Try.func18, Try.ntmps18
        go_wp2_with (go_at_call 16; refine (hok _).mono ?_; rintro e w1 ⟨rfl, rfl⟩)
        exact bodyPost_ret (v := rtV4 h m v 60000) (by simp [results, Try.results18, go_sem, rtV4]) rfl ⟨rfl, by first | exact ga3 _ _ _ _ | exact ga4 _ _ _ _ _⟩
      · have q2 : 2 * r = 60000 := by omega
        have e2 : rtL r = 60000 := by unfold rtL; rw [if_neg q3, q2]
        rw [e2]
        rw [q2] at hw
        obtain rfl : r = 30000 := by omega
        unfold rtV4 at hok ⊢
        go_enter Try.func18, Try.ntmps18
        go_wp2_with (go_at_call 16; refine (hok _).mono ?_; rintro e w1 ⟨rfl, rfl⟩)
        exact bodyPost_ret (v := rtV4 h m v 60000) (by simp [results, Try.results18, go_sem, rtV4]) rfl ⟨rfl, by first | exact ga3 _ _ _ _ | exact ga4 _ _ _ _ _⟩

theorem rt_abs (d : Int) : (if d < 0 then -d else d) = if d < -d then -d else d := by split <;> split <;> omega

set_option maxRecDepth 100000 in
set_option maxHeartbeats 1000000 in
theorem rt_msok (ms : Int) (w : World) : Calls Try.prog 34 #[.int .i64 ms] w fun e w' => e = .returned (.bool (inB ms 0 60000)) ∧ w' = w := by
  go_enter Try.func34, Try.ntmps34
  go_wp2
  all_goals
    go_ret
    refine ⟨ret_b ?_, rfl⟩
    rw [Bool.eq_iff_iff]
    simp [inB]
    omega

set_option maxRecDepth 100000 in
set_option maxHeartbeats 1000000 in
theorem rt_rto (M V z : Int) (w : World) (h0 : IntKind.i64.wrap (M.tdiv 8) = z) (hz : 0 ≤ z ∧ z ≤ 100000) (hV : 0 ≤ V ∧ V ≤ 1000000) (hM : z = M / 8) : Calls Try.prog 31 #[.int .i64 M, .int .i64 V] w fun e w' => e = .returned (.int .i64 (rtR M V)) ∧ w' = w := by
  have h1 : IntKind.i64.wrap (z + V) = z + V := IntWalk.i64_in _ (by omega)
  have h2 : IntKind.i64.wrap (z + 1) = z + 1 := IntWalk.i64_in _ (by omega)
  go_enter Try.func31, Try.ntmps31
  go_wp2
  all_goals
    go_ret
    refine ⟨ret_i ?_, rfl⟩
    unfold rtR
    rw [← hM]
    repeat' split
    all_goals omega

end Go.Proofs.Ythnmkghaejapjaa
