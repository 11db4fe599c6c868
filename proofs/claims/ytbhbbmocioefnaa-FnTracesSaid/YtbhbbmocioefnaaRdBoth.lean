/- Both readings of a block answer alike; where there is one it has, written again, the bytes that it was read from. -/
import Derived.Test.YtbhbbmocioefnaaBlkB
import Derived.Test.YtbhbbmocioefnaaDrawRB
import Derived.Test.YtbhbbmocioefnaaRdSpec
namespace Go.Proofs.Ytbhbbmocioefnaa
open Go.RowKit

end Go.Proofs.Ytbhbbmocioefnaa
