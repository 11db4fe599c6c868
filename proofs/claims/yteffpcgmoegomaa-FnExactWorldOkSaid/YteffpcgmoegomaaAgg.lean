/- Structs by value of five and more fields of one cell, opened. -/
import Derived.Test.YteffpcgmoegomaaProg
import Derived.Lib.SmallJoins
import Derived.Deep.Strs
namespace Go.Proofs.Yteffpcgmoegomaa
open Go.ChangeShapes Go.WideShapes Go.RowKit Go.Deep Go.WideElems Go.Maps Go.Joins
variable {H : Type} {enc : TypeId × Value → H} {P : Program} {w : World} {base : Nat} {spare : Nat → Bool} {held : Bool}

end Go.Proofs.Yteffpcgmoegomaa
