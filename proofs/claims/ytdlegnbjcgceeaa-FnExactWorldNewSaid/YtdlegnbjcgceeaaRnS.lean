/- Windows: the model's step. -/
import Derived.Test.YtdlegnbjcgceeaaRnK
namespace Go.Proofs.Ytdlegnbjcgceeaa
open Go.RowKit

end Go.Proofs.Ytdlegnbjcgceeaa
