/- Sizes of a board and of ranges, with what is left. -/
import Derived.Test.YtedgfiagefhahaaBdN
namespace Go.Proofs.Ytedgfiagefhahaa
open Go.RowKit

end Go.Proofs.Ytedgfiagefhahaa
