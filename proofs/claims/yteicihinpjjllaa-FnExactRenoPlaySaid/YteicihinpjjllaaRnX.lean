/- Windows: the laws' copies and comparisons. -/
import Derived.Test.YteicihinpjjllaaRnT
namespace Go.Proofs.Yteicihinpjjllaa
open Go.RowKit

set_option maxRecDepth 100000 in
set_option maxHeartbeats 2000000 in
theorem rn_to (m w l p d o g : Int) (W : World) : Calls Try.prog 26 #[.agg #[.int .i64 m, .int .i64 w, .int .i64 l, .int .i64 p, .int .i64 d, .int .i64 o, .int .i64 g]] W fun e w' => e = .returned (.agg #[.int .i64 m, .int .i64 w, .int .i64 l, .int .i64 p, .int .i64 d, .int .i64 o, .int .i64 g]) ∧ W.grownBy w' none := by
  go_enter Try.func26, Try.ntmps26
  go_wp2
  exact bodyPost_ret (v := .agg #[.int .i64 m, .int .i64 w, .int .i64 l, .int .i64 p, .int .i64 d, .int .i64 o, .int .i64 g]) (by simp [results, Try.results26, go_sem]) rfl ⟨rfl, by repeat (first | with_reducible refine gS ?_ (by first | omega | (simp; omega)) _ _ | with_reducible refine gA ?_ _ | with_reducible exact World.grownBy.refl _ _)⟩

set_option maxRecDepth 100000 in
set_option maxHeartbeats 2000000 in
theorem ev_to (k n a f x : Int) (W : World) : Calls Try.prog 27 #[.agg #[.int .i64 k, .int .i64 n, .int .i64 a, .int .i64 f, .int .i64 x]] W fun e w' => e = .returned (.agg #[.int .i64 k, .int .i64 n, .int .i64 a, .int .i64 f, .int .i64 x]) ∧ W.grownBy w' none := by
  go_enter Try.func27, Try.ntmps27
  go_wp2
  exact bodyPost_ret (v := .agg #[.int .i64 k, .int .i64 n, .int .i64 a, .int .i64 f, .int .i64 x]) (by simp [results, Try.results27, go_sem]) rfl ⟨rfl, by repeat (first | with_reducible refine gS ?_ (by first | omega | (simp; omega)) _ _ | with_reducible refine gA ?_ _ | with_reducible exact World.grownBy.refl _ _)⟩

set_option maxRecDepth 100000 in
set_option maxHeartbeats 2000000 in
theorem rn_eq (m w l p d o g : Int) (W : World) : Calls Try.prog 25 #[.agg #[.int .i64 m, .int .i64 w, .int .i64 l, .int .i64 p, .int .i64 d, .int .i64 o, .int .i64 g], .agg #[.int .i64 m, .int .i64 w, .int .i64 l, .int .i64 p, .int .i64 d, .int .i64 o, .int .i64 g]] W fun e w' => e = .returned (.bool true) ∧ W.grownBy w' none := by
  go_enter Try.func25, Try.ntmps25
  go_wp2
  go_ret
  exact ⟨rfl, by repeat (first | with_reducible refine gA ?_ _ | with_reducible exact World.grownBy.refl _ _)⟩

set_option maxRecDepth 100000 in
set_option maxHeartbeats 2000000 in
theorem ev_eq (k n a f x : Int) (W : World) : Calls Try.prog 46 #[.agg #[.int .i64 k, .int .i64 n, .int .i64 a, .int .i64 f, .int .i64 x], .agg #[.int .i64 k, .int .i64 n, .int .i64 a, .int .i64 f, .int .i64 x]] W fun e w' => e = .returned (.bool true) ∧ W.grownBy w' none := by
  go_enter Try.func46, Try.ntmps46
  go_wp2
  go_ret
  exact ⟨rfl, by repeat (first | with_reducible refine gA ?_ _ | with_reducible exact World.grownBy.refl _ _)⟩

/-- What three results of seven and one are, whole. -/
theorem nw_form (m y : Int) : ∃ (R0 R1 R2 R3 R4 R5 R6 : Int) (b : Bool), nwV m y = .tuple #[.agg #[.int .i64 R0, .int .i64 R1, .int .i64 R2, .int .i64 R3, .int .i64 R4, .int .i64 R5, .int .i64 R6], .bool b] := ⟨_, _, _, _, _, _, _, _, rfl⟩
theorem st_form (r : Rn) (e : Ev) : ∃ (R0 R1 R2 R3 R4 R5 R6 : Int) (b : Bool), stV r e = .tuple #[.agg #[.int .i64 R0, .int .i64 R1, .int .i64 R2, .int .i64 R3, .int .i64 R4, .int .i64 R5, .int .i64 R6], .bool b] := ⟨_, _, _, _, _, _, _, _, rfl⟩

end Go.Proofs.Yteicihinpjjllaa
