/- Windows: the program's step, whole. -/
import Derived.Test.YtdlegnbjcgceeaaRnJ
import Derived.Laws.EntriesVeiled
import Derived.StillTailTactics
namespace Go.Proofs.Ytdlegnbjcgceeaa
open Go.RowKit

end Go.Proofs.Ytdlegnbjcgceeaa
