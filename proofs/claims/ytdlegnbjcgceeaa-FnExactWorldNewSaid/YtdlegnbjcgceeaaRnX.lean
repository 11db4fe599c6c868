/- Windows: the laws' copies and comparisons. -/
import Derived.Test.YtdlegnbjcgceeaaRnT
namespace Go.Proofs.Ytdlegnbjcgceeaa
open Go.RowKit

set_option maxRecDepth 100000 in
set_option maxHeartbeats 2000000 in
theorem rn_eq (m w l p d o g : Int) (W : World) : Calls Try.prog 19 #[.agg #[.int .i64 m, .int .i64 w, .int .i64 l, .int .i64 p, .int .i64 d, .int .i64 o, .int .i64 g], .agg #[.int .i64 m, .int .i64 w, .int .i64 l, .int .i64 p, .int .i64 d, .int .i64 o, .int .i64 g]] W fun e w' => e = .returned (.bool true) ∧ W.grownBy w' none := by
  go_enter Try.func19, Try.ntmps19
  go_wp2
  go_ret
  exact ⟨rfl, by repeat (first | with_reducible refine gA ?_ _ | with_reducible exact World.grownBy.refl _ _)⟩

end Go.Proofs.Ytdlegnbjcgceeaa
