/- Windows: the program's phases. -/
import Derived.Test.YteffpcgmoegomaaRnI
namespace Go.Proofs.Yteffpcgmoegomaa
open Go.RowKit

end Go.Proofs.Yteffpcgmoegomaa
