/- What the reader's hurting of a text stands on. -/
import Derived.Test.YthfhffcimjolgaaDrawB
import Derived.Test.YthfhffcimjolgaaRow
namespace Go.Proofs.Ythfhffcimjolgaa
open Go.RowKit

theorem RdOk.drew {w : World} {r : Nat} (h : RdOk w r) : RdOk w.drew r := h.kept (grownBy_drew (r := none)) (by simp) (by simp)

end Go.Proofs.Ythfhffcimjolgaa
