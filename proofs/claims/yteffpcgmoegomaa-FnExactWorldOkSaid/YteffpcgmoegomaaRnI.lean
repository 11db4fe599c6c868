/- Windows: the program's step. -/
import Derived.Test.YteffpcgmoegomaaRn
import Derived.Test.YteffpcgmoegomaaBx
import Derived.Deep.RegionWith
import Derived.BigRegion
namespace Go.Proofs.Yteffpcgmoegomaa
open Go.RowKit

end Go.Proofs.Yteffpcgmoegomaa
