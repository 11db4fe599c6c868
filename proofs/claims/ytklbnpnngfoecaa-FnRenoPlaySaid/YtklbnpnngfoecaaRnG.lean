/- Windows: the drawings of arguments. -/
import Derived.Test.YtklbnpnngfoecaaRnF
import Derived.Test.YtklbnpnngfoecaaDraw
namespace Go.Proofs.Ytklbnpnngfoecaa
open Go.RowKit

def SkPost (w : World) (e : Ending) (w' : World) : Prop :=
  ∃ m y l p d o g : Int, e = .returned (.agg #[.int .i64 m, .int .i64 y, .int .i64 l, .int .i64 p, .int .i64 d, .int .i64 o, .int .i64 g]) ∧ w.grownBy w' none
def StPost (w : World) (e : Ending) (w' : World) : Prop :=
  ∃ m y l p d o g k n1 a1 f x : Int, e = .returned (.tuple #[.agg #[.int .i64 m, .int .i64 y, .int .i64 l, .int .i64 p, .int .i64 d, .int .i64 o, .int .i64 g], .agg #[.int .i64 k, .int .i64 n1, .int .i64 a1, .int .i64 f, .int .i64 x]]) ∧ w.grownBy w' none

end Go.Proofs.Ytklbnpnngfoecaa
