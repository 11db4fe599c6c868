/- Contracts of the functions on numbers that go round (both the program's own and the model's), over the seat's program. -/
import Derived.Test.YthfhffcimjolgaaChecked
import Derived.WalkKit
import Derived.Lib.Hide
namespace Go.Proofs.Ythfhffcimjolgaa
open Go.RowKit

def goesB (n : Int) : Bool := decide (0 ≤ n ∧ n < 4294967296)
def inB (n a b : Int) : Bool := decide (a ≤ n ∧ n ≤ b)
def seqAdd (a n : Int) : Int := if 0 ≤ a ∧ a < 4294967296 ∧ -4294967296 ≤ n ∧ n ≤ 4294967296 then (a + n + 4294967296) % 4294967296 else -1
def diff (a b : Int) : Int := if (a - b) % 4294967296 < 2147483648 then (a - b) % 4294967296 else (a - b) % 4294967296 - 4294967296
def seqDiff (a b : Int) : Int := if 0 ≤ a ∧ a < 4294967296 ∧ 0 ≤ b ∧ b < 4294967296 then diff a b else 0
def unwrap (l s : Int) : Int := if 0 ≤ l ∧ l ≤ 4294967296000 ∧ 0 ≤ s ∧ s < 4294967296 then (if l + diff s (l % 4294967296) < 0 then l + diff s (l % 4294967296) + 4294967296 else l + diff s (l % 4294967296)) else -1

theorem goes_of {n : Int} (h : goesB n = true) : 0 ≤ n ∧ n < 4294967296 := by simpa [goesB] using h
theorem goes_not {n : Int} (h : goesB n = false) : ¬ (0 ≤ n ∧ n < 4294967296) := by simpa [goesB] using h
theorem goes_mk {n : Int} (h : 0 ≤ n ∧ n < 4294967296) : goesB n = true := by simpa [goesB] using h
theorem in_of {n a b : Int} (h : inB n a b = true) : a ≤ n ∧ n ≤ b := by simpa [inB] using h
theorem in_not {n a b : Int} (h : inB n a b = false) : ¬ (a ≤ n ∧ n ≤ b) := by simpa [inB] using h
theorem ret_i {a b : Int} (h : a = b) : Ending.returned (.int .i64 a) = .returned (.int .i64 b) := by rw [h]
theorem ret_b {a b : Bool} (h : a = b) : Ending.returned (.bool a) = .returned (.bool b) := by rw [h]

set_option maxRecDepth 100000 in
theorem goes_any (n : Int) (w : World) : Calls Try.prog 18 #[.int .i64 n] w fun e w' => e = .returned (.bool (goesB n)) ∧ w = w' := by
  by_cases h1 : 0 ≤ n
  · by_cases h2 : n < 4294967296
    all_goals
      go_enter Try.func18, Try.ntmps18
      go_wp2
      go_ret
      exact ⟨ret_b (by unfold goesB; simp; omega), rfl⟩
  · go_enter Try.func18, Try.ntmps18
    go_wp2
    go_ret
    exact ⟨ret_b (by unfold goesB; simp; omega), rfl⟩

set_option maxRecDepth 100000 in
theorem in_any (n a b : Int) (w : World) : Calls Try.prog 38 #[.int .i64 n, .int .i64 a, .int .i64 b] w fun e w' => e = .returned (.bool (inB n a b)) ∧ w = w' := by
  by_cases h1 : a ≤ n
  · by_cases h2 : n ≤ b
    all_goals
      go_enter Try.func38, Try.ntmps38
      go_wp2
      go_ret
      exact ⟨ret_b (by unfold inB; simp; omega), rfl⟩
  · go_enter Try.func38, Try.ntmps38
    go_wp2
    go_ret
    exact ⟨ret_b (by unfold inB; simp; omega), rfl⟩

set_option maxRecDepth 100000 in
theorem seq_any (n : Int) (w : World) : Calls Try.prog 27 #[.int .i64 n] w fun e w' => e = .returned (.bool (goesB n)) ∧ w = w' := by
  go_enter Try.func27, Try.ntmps27
  go_wp2_with (go_at_call 38; refine (in_any _ _ _ _).mono ?_; rintro e w' ⟨rfl, rfl⟩)
  go_ret
  exact ⟨ret_b (by unfold inB goesB; rw [Bool.eq_iff_iff]; simp; omega), rfl⟩

theorem diff_bd (a b : Int) : -2147483648 ≤ diff a b ∧ diff a b < 2147483648 := by unfold diff; split <;> omega
theorem diff_mod (a b : Int) : diff a b % 4294967296 = (a - b) % 4294967296 := by unfold diff; split <;> omega

end Go.Proofs.Ythfhffcimjolgaa
