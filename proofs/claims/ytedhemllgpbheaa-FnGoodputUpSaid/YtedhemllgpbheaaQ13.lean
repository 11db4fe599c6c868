/- Put Oct -/
import Derived.Test.YtedhemllgpbheaaQ7
import Derived.LoopN
namespace Go.Proofs.Ytedhemllgpbheaa
open Go.RowKit

def putOk (n width : Int) : Prop := 1 ≤ width ∧ width ≤ 6 ∧ 0 ≤ n ∧ n < 256 ^ width.toNat
instance (n width : Int) : Decidable (putOk n width) := by unfold putOk; infer_instance
end Go.Proofs.Ytedhemllgpbheaa

namespace Go.Proofs.Ytedhemllgpbheaa
open Go.RowKit

/-- The bytes in the block that was made last, as a text. -/
theorem conv_new (w : World) (C : Array Value) (T : TypeId) (k c : Nat) (l : List UInt8) (hl : l.length = k) (h : ∀ j (hj : j < l.length), C[j]? = some (.int .u8 (l[j].toNat : Int))) :
    (convert 22 9 (.slice (some ⟨w.heap.size, 0, none⟩) k c)).run Try.prog (w.alloc (.cells C T)) = .ok (.string ⟨l.toArray⟩) (w.alloc (.cells C T)) := by
  subst hl
  refine run_convert_bytes_back _ 22 9 5 ⟨w.heap.size, 0, none⟩ c l Try.underlying22 Try.underlying5 Try.underlying9 fun j hj => ?_
  have e : ((⟨w.heap.size, 0, none⟩ : Addr).add j) = ⟨w.heap.size, j, none⟩ := by by_cases h0 : j = 0 <;> simp [Addr.add, h0]
  rw [e, World.cell?_alloc_mark]
  exact h j hj

end Go.Proofs.Ytedhemllgpbheaa

