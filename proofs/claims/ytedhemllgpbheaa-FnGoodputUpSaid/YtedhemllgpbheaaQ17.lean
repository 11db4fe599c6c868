/- PcHoS -/
import Derived.Test.YtedhemllgpbheaaQ16
namespace Go.Proofs.Ytedhemllgpbheaa.P7
open Go.RowKit

theorem pk_cells {w : World} {b off : Nat} {l : List Pk} (h : PkAt w (some ⟨b, off, none⟩) l) (i : Nat) (hi : i < l.length) : w.cell? ⟨b, off + i * 2, none⟩ = some (.int .i64 (l[i]).1) ∧ w.cell? ⟨b, off + i * 2 + 1, none⟩ = some (.string ⟨(l[i]).2.toArray⟩) := by
  rcases h with h | ⟨b', off', ha, _, hc⟩
  · subst h; simp at hi
  · cases ha; exact hc i hi

end Go.Proofs.Ytedhemllgpbheaa.P7

