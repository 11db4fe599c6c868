/- Windows: the program's phases. -/
import Derived.Test.YtdlegnbjcgceeaaRnI
namespace Go.Proofs.Ytdlegnbjcgceeaa
open Go.RowKit

end Go.Proofs.Ytdlegnbjcgceeaa
