/- Contracts of the functions on numbers that go round (both the program's own and the model's), over the seat's program. -/
import Derived.Test.YtenfibgcepcbgaaChecked
import Derived.WalkKit
import Derived.Lib.Hide
namespace Go.Proofs.Ytenfibgcepcbgaa
open Go.RowKit

def goesB (n : Int) : Bool := decide (0 ≤ n ∧ n < 4294967296)
def inB (n a b : Int) : Bool := decide (a ≤ n ∧ n ≤ b)
def seqAdd (a n : Int) : Int := if 0 ≤ a ∧ a < 4294967296 ∧ -4294967296 ≤ n ∧ n ≤ 4294967296 then (a + n + 4294967296) % 4294967296 else -1
def diff (a b : Int) : Int := if (a - b) % 4294967296 < 2147483648 then (a - b) % 4294967296 else (a - b) % 4294967296 - 4294967296
def seqDiff (a b : Int) : Int := if 0 ≤ a ∧ a < 4294967296 ∧ 0 ≤ b ∧ b < 4294967296 then diff a b else 0
def unwrap (l s : Int) : Int := if 0 ≤ l ∧ l ≤ 4294967296000 ∧ 0 ≤ s ∧ s < 4294967296 then (if l + diff s (l % 4294967296) < 0 then l + diff s (l % 4294967296) + 4294967296 else l + diff s (l % 4294967296)) else -1

theorem goes_of {n : Int} (h : goesB n = true) : 0 ≤ n ∧ n < 4294967296 := by simpa [goesB] using h
theorem goes_not {n : Int} (h : goesB n = false) : ¬ (0 ≤ n ∧ n < 4294967296) := by simpa [goesB] using h
theorem goes_mk {n : Int} (h : 0 ≤ n ∧ n < 4294967296) : goesB n = true := by simpa [goesB] using h
theorem in_of {n a b : Int} (h : inB n a b = true) : a ≤ n ∧ n ≤ b := by simpa [inB] using h
theorem in_not {n a b : Int} (h : inB n a b = false) : ¬ (a ≤ n ∧ n ≤ b) := by simpa [inB] using h
theorem ret_i {a b : Int} (h : a = b) : Ending.returned (.int .i64 a) = .returned (.int .i64 b) := by rw [h]
theorem ret_b {a b : Bool} (h : a = b) : Ending.returned (.bool a) = .returned (.bool b) := by rw [h]

theorem goes_any (n : Int) (w : World) : Calls Try.prog 39 #[.int .i64 n] w fun e w' => e = .returned (.bool (goesB n)) ∧ w = w' := by
  by_cases h1 : 0 ≤ n
  · by_cases h2 : n < 4294967296
    all_goals
      go_enter Try.func39, Try.ntmps39
      go_wp2
      go_ret
      exact ⟨ret_b (by unfold goesB; simp; omega), rfl⟩
  · go_enter Try.func39, Try.ntmps39
    go_wp2
    go_ret
    exact ⟨ret_b (by unfold goesB; simp; omega), rfl⟩

theorem in_any (n a b : Int) (w : World) : Calls Try.prog 42 #[.int .i64 n, .int .i64 a, .int .i64 b] w fun e w' => e = .returned (.bool (inB n a b)) ∧ w = w' := by
  by_cases h1 : a ≤ n
  · by_cases h2 : n ≤ b
    all_goals
      go_enter Try.func42, Try.ntmps42
      go_wp2
      go_ret
      exact ⟨ret_b (by unfold inB; simp; omega), rfl⟩
  · go_enter Try.func42, Try.ntmps42
    go_wp2
    go_ret
    exact ⟨ret_b (by unfold inB; simp; omega), rfl⟩

theorem seq_any (n : Int) (w : World) : Calls Try.prog 41 #[.int .i64 n] w fun e w' => e = .returned (.bool (goesB n)) ∧ w = w' := by
  go_enter Try.func41, Try.ntmps41
  go_wp2_with (go_at_call 42; refine (in_any _ _ _ _).mono ?_; rintro e w' ⟨rfl, rfl⟩)
  go_ret
  exact ⟨ret_b (by unfold inB goesB; rw [Bool.eq_iff_iff]; simp; omega), rfl⟩

theorem add_impl (a n : Int) (w : World) : Calls Try.prog 17 #[.int .i64 a, .int .i64 n] w fun e w' => e = .returned (.int .i64 (seqAdd a n)) ∧ w = w' := by
  cases g : goesB a
  · have g' := goes_not g
    go_enter Try.func17, Try.ntmps17
    go_wp2_with (go_at_call 39; refine (goes_any _ _).mono ?_; rintro e w' ⟨rfl, rfl⟩)
    all_goals
      go_ret
      exact ⟨ret_i (by unfold seqAdd; rw [if_neg (by omega)]), rfl⟩
  · have g' := goes_of g
    by_cases h2 : n < -4294967296
    · go_enter Try.func17, Try.ntmps17
      go_wp2_with (go_at_call 39; refine (goes_any _ _).mono ?_; rintro e w' ⟨rfl, rfl⟩)
      go_ret
      exact ⟨ret_i (by unfold seqAdd; rw [if_neg (by omega)]), rfl⟩
    · by_cases h3 : 4294967296 < n
      all_goals
        go_enter Try.func17, Try.ntmps17
        go_wp2_with (go_at_call 39; refine (goes_any _ _).mono ?_; rintro e w' ⟨rfl, rfl⟩)
        go_ret
        exact ⟨ret_i (by unfold seqAdd; first | rw [if_neg (by omega)] | rw [if_pos (by omega)]), rfl⟩

theorem add_spec (a n : Int) (w : World) : Calls Try.prog 20 #[.int .i64 a, .int .i64 n] w fun e w' => e = .returned (.int .i64 (seqAdd a n)) ∧ w = w' := by
  cases g : goesB a
  · have g' := goes_not g
    go_enter Try.func20, Try.ntmps20
    go_wp2_with (first | (go_at_call 41; refine (seq_any _ _).mono ?_; rintro e w' ⟨rfl, rfl⟩) | (go_at_call 42; refine (in_any _ _ _ _).mono ?_; rintro e w' ⟨rfl, rfl⟩))
    all_goals
      go_ret
      exact ⟨ret_i (by unfold seqAdd; rw [if_neg (by omega)]), rfl⟩
  · have g' := goes_of g
    cases h : inB n (-4294967296) 4294967296
    · have h' := in_not h
      go_enter Try.func20, Try.ntmps20
      go_wp2_with (first | (go_at_call 41; refine (seq_any _ _).mono ?_; rintro e w' ⟨rfl, rfl⟩) | (go_at_call 42; refine (in_any _ _ _ _).mono ?_; rintro e w' ⟨rfl, rfl⟩))
      go_ret
      exact ⟨ret_i (by unfold seqAdd; rw [if_neg (by omega)]), rfl⟩
    · have h' := in_of h
      go_enter Try.func20, Try.ntmps20
      go_wp2_with (first | (go_at_call 41; refine (seq_any _ _).mono ?_; rintro e w' ⟨rfl, rfl⟩) | (go_at_call 42; refine (in_any _ _ _ _).mono ?_; rintro e w' ⟨rfl, rfl⟩))
      go_ret
      exact ⟨ret_i (by unfold seqAdd; rw [if_pos (by omega)]), rfl⟩

theorem diff_spec1 (a b : Int) (w : World) (ha : 0 ≤ a ∧ a < 4294967296) (hb : 0 ≤ b ∧ b < 4294967296) : Calls Try.prog 43 #[.int .i64 a, .int .i64 b] w fun e w' => e = .returned (.int .i64 (diff a b)) ∧ w = w' := by
  by_cases h : (a - b) % 4294967296 < 2147483648
  all_goals
    go_enter Try.func43, Try.ntmps43
    go_wp2
    go_ret
    exact ⟨ret_i (by unfold diff; split <;> omega), rfl⟩

theorem diff_spec (a b : Int) (w : World) : Calls Try.prog 21 #[.int .i64 a, .int .i64 b] w fun e w' => e = .returned (.int .i64 (seqDiff a b)) ∧ w = w' := by
  cases g : goesB a
  · have g' := goes_not g
    go_enter Try.func21, Try.ntmps21
    go_wp2_with (first | (go_at_call 41; refine (seq_any _ _).mono ?_; rintro e w' ⟨rfl, rfl⟩))
    all_goals
      go_ret
      exact ⟨ret_i (by unfold seqDiff; rw [if_neg (by omega)]), rfl⟩
  · have g' := goes_of g
    cases h : goesB b
    · have h' := goes_not h
      go_enter Try.func21, Try.ntmps21
      go_wp2_with (first | (go_at_call 41; refine (seq_any _ _).mono ?_; rintro e w' ⟨rfl, rfl⟩))
      go_ret
      exact ⟨ret_i (by unfold seqDiff; rw [if_neg (by omega)]), rfl⟩
    · have h' := goes_of h
      go_enter Try.func21, Try.ntmps21
      go_wp2_with (first | (go_at_call 41; refine (seq_any _ _).mono ?_; rintro e w' ⟨rfl, rfl⟩) | (go_at_call 43; refine (diff_spec1 _ _ _ g' h').mono ?_; rintro e w' ⟨rfl, rfl⟩))
      go_ret
      exact ⟨ret_i (by unfold seqDiff; rw [if_pos (by omega)]), rfl⟩

theorem diff_impl (a b : Int) (w : World) : Calls Try.prog 19 #[.int .i64 a, .int .i64 b] w fun e w' => e = .returned (.int .i64 (seqDiff a b)) ∧ w = w' := by
  cases g : goesB a
  · have g' := goes_not g
    go_enter Try.func19, Try.ntmps19
    go_wp2_with (first | (go_at_call 39; refine (goes_any _ _).mono ?_; rintro e w' ⟨rfl, rfl⟩))
    all_goals
      go_ret
      exact ⟨ret_i (by unfold seqDiff; rw [if_neg (by omega)]), rfl⟩
  · have g' := goes_of g
    cases h : goesB b
    · have h' := goes_not h
      go_enter Try.func19, Try.ntmps19
      go_wp2_with (first | (go_at_call 39; refine (goes_any _ _).mono ?_; rintro e w' ⟨rfl, rfl⟩))
      go_ret
      exact ⟨ret_i (by unfold seqDiff; rw [if_neg (by omega)]), rfl⟩
    · have h' := goes_of h
      by_cases h1 : a - b < -2147483648
      · go_enter Try.func19, Try.ntmps19
        go_wp2_with (first | (go_at_call 39; refine (goes_any _ _).mono ?_; rintro e w' ⟨rfl, rfl⟩))
        go_ret
        exact ⟨ret_i (by unfold seqDiff diff; rw [if_pos (by omega)]; split <;> omega), rfl⟩
      · by_cases h2 : 2147483648 ≤ a - b
        all_goals
          go_enter Try.func19, Try.ntmps19
          go_wp2_with (first | (go_at_call 39; refine (goes_any _ _).mono ?_; rintro e w' ⟨rfl, rfl⟩))
          go_ret
          exact ⟨ret_i (by unfold seqDiff diff; rw [if_pos (by omega)]; split <;> omega), rfl⟩

theorem diff_bd (a b : Int) : -2147483648 ≤ diff a b ∧ diff a b < 2147483648 := by unfold diff; split <;> omega
theorem diff_mod (a b : Int) : diff a b % 4294967296 = (a - b) % 4294967296 := by unfold diff; split <;> omega

theorem unwrap_spec (a b : Int) (w : World) : Calls Try.prog 24 #[.int .i64 a, .int .i64 b] w fun e w' => e = .returned (.int .i64 (unwrap a b)) ∧ w = w' := by
  cases g : inB a 0 4294967296000
  · have g' := in_not g
    go_enter Try.func24, Try.ntmps24
    go_wp2_with (first | (go_at_call 41; refine (seq_any _ _).mono ?_; rintro e w' ⟨rfl, rfl⟩) | (go_at_call 42; refine (in_any _ _ _ _).mono ?_; rintro e w' ⟨rfl, rfl⟩))
    all_goals
      go_ret
      exact ⟨ret_i (by unfold unwrap; rw [if_neg (by omega)]), rfl⟩
  · have g' := in_of g
    cases h : goesB b
    · have h' := goes_not h
      go_enter Try.func24, Try.ntmps24
      go_wp2_with (first | (go_at_call 41; refine (seq_any _ _).mono ?_; rintro e w' ⟨rfl, rfl⟩) | (go_at_call 42; refine (in_any _ _ _ _).mono ?_; rintro e w' ⟨rfl, rfl⟩))
      go_ret
      exact ⟨ret_i (by unfold unwrap; rw [if_neg (by omega)]), rfl⟩
    · have h' := goes_of h
      have d := diff_bd b (a % 4294967296)
      have hu : unwrap a b = if a + diff b (a % 4294967296) < 0 then a + diff b (a % 4294967296) + 4294967296 else a + diff b (a % 4294967296) := by unfold unwrap; rw [if_pos (by omega)]
      have hm : 0 ≤ a % 4294967296 ∧ a % 4294967296 < 4294967296 := by omega
      have HU := Lib.hid hu
      clear hu
      by_cases h1 : a + diff b (a % 4294967296) < 0
      all_goals
        go_enter Try.func24, Try.ntmps24
        go_wp2_with (first | (go_at_call 41; refine (seq_any _ _).mono ?_; rintro e w' ⟨rfl, rfl⟩) | (go_at_call 42; refine (in_any _ _ _ _).mono ?_; rintro e w' ⟨rfl, rfl⟩) | (go_at_call 43; refine (diff_spec1 _ _ _ h' hm).mono ?_; rintro e w' ⟨rfl, rfl⟩))
        go_ret
        exact ⟨ret_i (by rw [HU.out]; split <;> omega), rfl⟩

theorem unwrap_impl (a b : Int) (w : World) : Calls Try.prog 23 #[.int .i64 a, .int .i64 b] w fun e w' => e = .returned (.int .i64 (unwrap a b)) ∧ w = w' := by
  by_cases g1 : a < 0
  · go_enter Try.func23, Try.ntmps23
    go_wp2_with (first | (go_at_call 39; refine (goes_any _ _).mono ?_; rintro e w' ⟨rfl, rfl⟩))
    all_goals
      go_ret
      exact ⟨ret_i (by unfold unwrap; rw [if_neg (by omega)]), rfl⟩
  · by_cases g2 : 4294967296000 < a
    · go_enter Try.func23, Try.ntmps23
      go_wp2_with (first | (go_at_call 39; refine (goes_any _ _).mono ?_; rintro e w' ⟨rfl, rfl⟩))
      all_goals
        go_ret
        exact ⟨ret_i (by unfold unwrap; rw [if_neg (by omega)]), rfl⟩
    · cases h : goesB b
      · have h' := goes_not h
        go_enter Try.func23, Try.ntmps23
        go_wp2_with (first | (go_at_call 39; refine (goes_any _ _).mono ?_; rintro e w' ⟨rfl, rfl⟩))
        go_ret
        exact ⟨ret_i (by unfold unwrap; rw [if_neg (by omega)]), rfl⟩
      · have h' := goes_of h
        have d := diff_bd b (a % 4294967296)
        have hu : unwrap a b = if a + diff b (a % 4294967296) < 0 then a + diff b (a % 4294967296) + 4294967296 else a + diff b (a % 4294967296) := by unfold unwrap; rw [if_pos (by omega)]
        have hs : seqDiff b (a % 4294967296) = diff b (a % 4294967296) := by unfold seqDiff; rw [if_pos (by omega)]
        have HU := Lib.hid hu
        clear hu
        by_cases h1 : a + diff b (a % 4294967296) < 0
        all_goals
          go_enter Try.func23, Try.ntmps23
          go_wp2_with (first | (go_at_call 39; refine (goes_any _ _).mono ?_; rintro e w' ⟨rfl, rfl⟩) | (go_at_call 19; refine (diff_impl _ _ _).mono ?_; rintro e w' ⟨rfl, rfl⟩))
          go_ret
          exact ⟨ret_i (by rw [HU.out]; split <;> omega), rfl⟩

end Go.Proofs.Ytenfibgcepcbgaa
