/- One piece more, or a refusal: the model's. -/
import Derived.Test.YtaigdimicnlfdaaPcAd
namespace Go.Proofs.Ytaigdimicnlfdaa
open Go.RowKit

theorem pcIn_two (p : Int) (m : List UInt8) : pcIn 5000 300 (p, m) = (inB p 0 5000 && inB (m.length : Int) 1 300) := by
  simp only [pcIn, inB, ← Bool.decide_and]
  exact decide_eq_decide.mpr ⟨fun h => ⟨⟨h.1, h.2.1⟩, h.2.2.1, h.2.2.2⟩, fun h => ⟨h.1.1, h.1.2, h.2.1, h.2.2⟩⟩
theorem pcIn_of {F B : Int} {x : Pk} (h : pcIn F B x = true) : 0 ≤ x.1 ∧ x.1 ≤ F ∧ (1 : Int) ≤ x.2.length ∧ (x.2.length : Int) ≤ B := of_decide_eq_true h

noncomputable def addOk (l : List Pk) (x : Pk) : Bool := pcsOk l && pcIn 5000 300 x && pcsOk (withL l x)
noncomputable def addR (l : List Pk) (x : Pk) : List Pk := if addOk l x = true then withL l x else []
def AddPost (w : World) (l : List Pk) (x : Pk) (e : Ending) (w' : World) : Prop :=
  ∃ v, e = .returned (.tuple #[v, .bool (addOk l x)]) ∧ w.grownBy w' none ∧ w'.ownsRow w.heap.size 57 2 v (addR l x).length (pksV (addR l x))

end Go.Proofs.Ytaigdimicnlfdaa
