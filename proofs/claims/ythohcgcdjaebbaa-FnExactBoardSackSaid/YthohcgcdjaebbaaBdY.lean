/- Sizes of a board and of ranges, with what is left. -/
import Derived.Test.YthohcgcdjaebbaaBdN
namespace Go.Proofs.Ythohcgcdjaebbaa
open Go.RowKit

set_option maxRecDepth 100000 in
theorem sz_ranges2 (a : Option Addr) (c : Nat) (l : List Rg) (k : Int) (w : World) (hl : l.length ≤ 9223372036854775807) (h0 : 0 ≤ k) (h1 : k ≤ 1048576) : Calls Try.prog 39 #[.slice a l.length c, .int .i64 k] w fun e w' => (∃ r : Int, e = .returned (.int .i64 r) ∧ (0 ≤ r → l.length ≤ 1048576)) ∧ w' = w := by
  by_cases h : (l.length : Int) ≤ k
  · go_enter Try.func39, Try.ntmps39
    go_wp2
    go_ret
    exact ⟨⟨_, rfl, fun _ => by omega⟩, rfl⟩
  · go_enter Try.func39, Try.ntmps39
    go_wp2
    go_ret
    exact ⟨⟨_, rfl, fun h => by omega⟩, rfl⟩

set_option maxRecDepth 100000 in
set_option maxHeartbeats 1000000 in
theorem sz_board2 (u n : Int) (a : Option Addr) (c : Nat) (l : List Rg) (w : World) (hl : l.length ≤ 9223372036854775807) : Calls Try.prog 34 #[bdV u n a l.length c, .int .i64 1048576] w fun e w' => (∃ r : Int, e = .returned (.int .i64 r) ∧ (0 ≤ r → l.length ≤ 1048576 ∧ r ≤ 1048576)) ∧ w.grownBy w' none := by
  by_cases h1 : (l.length : Int) ≤ 1048576
  · go_enter Try.func34, Try.ntmps34
    go_wp2_with fail
    refine (sz_ranges _ _ _ _ _ (by omega) rfl).mono ?_
    rintro e w1 ⟨rfl, rfl⟩
    rw [if_pos h1]
    go_wp2_with fail
    go_ret
    exact ⟨⟨_, rfl, fun _ => by omega⟩, World.grownBy_alloc _ _ _⟩
  · go_enter Try.func34, Try.ntmps34
    go_wp2_with fail
    refine (sz_ranges _ _ _ _ _ (by omega) rfl).mono ?_
    rintro e w1 ⟨rfl, rfl⟩
    rw [if_neg (by omega : ¬ (l.length : Int) ≤ 1048576)]
    go_wp2_with fail
    go_ret
    exact ⟨⟨_, rfl, fun h => by omega⟩, World.grownBy_alloc _ _ _⟩

end Go.Proofs.Ythohcgcdjaebbaa
