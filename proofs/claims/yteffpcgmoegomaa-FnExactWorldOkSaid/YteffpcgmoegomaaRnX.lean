/- Windows: the laws' copies and comparisons. -/
import Derived.Test.YteffpcgmoegomaaRnT
namespace Go.Proofs.Yteffpcgmoegomaa
open Go.RowKit

set_option maxRecDepth 100000 in
set_option maxHeartbeats 2000000 in
theorem rn_to (m w l p d o g : Int) (W : World) : Calls Try.prog 30 #[.agg #[.int .i64 m, .int .i64 w, .int .i64 l, .int .i64 p, .int .i64 d, .int .i64 o, .int .i64 g]] W fun e w' => e = .returned (.agg #[.int .i64 m, .int .i64 w, .int .i64 l, .int .i64 p, .int .i64 d, .int .i64 o, .int .i64 g]) ∧ W.grownBy w' none := by
  go_enter Try.func30, Try.ntmps30
  go_wp2
  exact bodyPost_ret (v := .agg #[.int .i64 m, .int .i64 w, .int .i64 l, .int .i64 p, .int .i64 d, .int .i64 o, .int .i64 g]) (by simp [results, Try.results30, go_sem]) rfl ⟨rfl, by repeat (first | with_reducible refine gS ?_ (by first | omega | (simp; omega)) _ _ | with_reducible refine gA ?_ _ | with_reducible exact World.grownBy.refl _ _)⟩

set_option maxRecDepth 100000 in
set_option maxHeartbeats 2000000 in
theorem rn_eq (m w l p d o g : Int) (W : World) : Calls Try.prog 42 #[.agg #[.int .i64 m, .int .i64 w, .int .i64 l, .int .i64 p, .int .i64 d, .int .i64 o, .int .i64 g], .agg #[.int .i64 m, .int .i64 w, .int .i64 l, .int .i64 p, .int .i64 d, .int .i64 o, .int .i64 g]] W fun e w' => e = .returned (.bool true) ∧ W.grownBy w' none := by
  go_enter Try.func42, Try.ntmps42
  go_wp2
  go_ret
  exact ⟨rfl, by repeat (first | with_reducible refine gA ?_ _ | with_reducible exact World.grownBy.refl _ _)⟩

/-- What three results of seven and one are, whole. -/
theorem nw_form (m y : Int) : ∃ (R0 R1 R2 R3 R4 R5 R6 : Int) (b : Bool), nwV m y = .tuple #[.agg #[.int .i64 R0, .int .i64 R1, .int .i64 R2, .int .i64 R3, .int .i64 R4, .int .i64 R5, .int .i64 R6], .bool b] := ⟨_, _, _, _, _, _, _, _, rfl⟩
theorem st_form (r : Rn) (e : Ev) : ∃ (R0 R1 R2 R3 R4 R5 R6 : Int) (b : Bool), stV r e = .tuple #[.agg #[.int .i64 R0, .int .i64 R1, .int .i64 R2, .int .i64 R3, .int .i64 R4, .int .i64 R5, .int .i64 R6], .bool b] := ⟨_, _, _, _, _, _, _, _, rfl⟩

end Go.Proofs.Yteffpcgmoegomaa
