/- Windows: the laws' copies and comparisons. -/
import Derived.Test.YtklbnpnngfoecaaRnT
namespace Go.Proofs.Ytklbnpnngfoecaa
open Go.RowKit

/-- What three results of seven and one are, whole. -/
theorem nw_form (m y : Int) : ∃ (R0 R1 R2 R3 R4 R5 R6 : Int) (b : Bool), nwV m y = .tuple #[.agg #[.int .i64 R0, .int .i64 R1, .int .i64 R2, .int .i64 R3, .int .i64 R4, .int .i64 R5, .int .i64 R6], .bool b] := ⟨_, _, _, _, _, _, _, _, rfl⟩
theorem st_form (r : Rn) (e : Ev) : ∃ (R0 R1 R2 R3 R4 R5 R6 : Int) (b : Bool), stV r e = .tuple #[.agg #[.int .i64 R0, .int .i64 R1, .int .i64 R2, .int .i64 R3, .int .i64 R4, .int .i64 R5, .int .i64 R6], .bool b] := ⟨_, _, _, _, _, _, _, _, rfl⟩

end Go.Proofs.Ytklbnpnngfoecaa
