/- Windows: the program's step. -/
import Derived.Test.YtdlegnbjcgceeaaRn
import Derived.Test.YtdlegnbjcgceeaaBx
import Derived.Deep.RegionWith
import Derived.BigRegion
namespace Go.Proofs.Ytdlegnbjcgceeaa
open Go.RowKit

end Go.Proofs.Ytdlegnbjcgceeaa
