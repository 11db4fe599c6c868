/- What the reader's hurting of a text stands on (a seat of chapter 2). -/
import Derived.Test.YtbhbbmocioefnaaBack
import Derived.Test.YtbhbbmocioefnaaBlkB
namespace Go.Proofs.Ytbhbbmocioefnaa
open Go.RowKit

theorem RdOk.drew {w : World} {r : Nat} (h : RdOk w r) : RdOk w.drew r := h.kept (grownBy_drew (r := none)) (by simp) (by simp)

end Go.Proofs.Ytbhbbmocioefnaa
