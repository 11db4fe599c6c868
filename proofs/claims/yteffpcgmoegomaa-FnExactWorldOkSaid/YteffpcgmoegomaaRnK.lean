/- Windows: the program's step, whole. -/
import Derived.Test.YteffpcgmoegomaaRnJ
import Derived.Laws.EntriesVeiled
import Derived.StillTailTactics
namespace Go.Proofs.Yteffpcgmoegomaa
open Go.RowKit

def stB (r : Rn) (e : Ev) : Bool := rnOk r && evOk e
def stR (r : Rn) (e : Ev) : Rn := if stB r e = true then rnStep r e else rnZ
def stV (r : Rn) (e : Ev) : Value := .tuple #[rnV (stR r e), .bool (stB r e)]
theorem rn_okg (m w l p d o g : Int) (W : World) : Calls Try.prog 35 #[.agg #[.int .i64 m, .int .i64 w, .int .i64 l, .int .i64 p, .int .i64 d, .int .i64 o, .int .i64 g]] W fun e w' => e = .returned (.bool (rnOk ⟨m, w, l, p, d, o, g⟩)) ∧ W.grownBy w' none :=
  (rn_okI m w l p d o g W).mono fun _ _ ⟨h, k, hk⟩ => ⟨h, hk ▸ gD (gA (World.grownBy.refl _ _) _) k⟩

end Go.Proofs.Yteffpcgmoegomaa
