/- The holes between pieces: the model's. -/
import Derived.Test.YtaigdimicnlfdaaPcHo
namespace Go.Proofs.Ytaigdimicnlfdaa
open Go.RowKit

theorem holes_none (t : Int) : ∀ (l : List Pk) (a : Int), t ≤ a → (∀ p ∈ l, t ≤ p.1) → holesF l a t = []
  | [], a, h, _ => by rw [holesF, hole, if_neg (by omega)]
  | p :: l, a, h, hp => by
    have := hp p (by simp)
    rw [holesF, hole, if_neg (by omega), List.nil_append]
    exact holes_none t l _ (by omega) (fun q hq => hp q (by simp [hq]))

theorem holes_stop {p : Pk} {l : List Pk} {a t : Int} (hg : Good (p :: l)) (h : t ≤ p.1) : holesF (p :: l) a t = hole a t := by
  obtain ⟨_, b, _⟩ := good_cons hg
  rw [holesF, Int.min_eq_right h, holes_none t l _ (by omega) (fun q hq => by have := b q hq; unfold gap at this; omega), List.append_nil]

theorem good_drop : ∀ (j : Nat) {l : List Pk}, Good l → Good (l.drop j)
  | 0, _, h => by simpa using h
  | j + 1, [], h => by simpa using h
  | j + 1, p :: l, h => by
    rw [List.drop_succ_cons]
    exact good_drop j (good_cons h).1

theorem pk_cells {w : World} {b off : Nat} {l : List Pk} (h : PkAt w (some ⟨b, off, none⟩) l) (i : Nat) (hi : i < l.length) : w.cell? ⟨b, off + i * 2, none⟩ = some (.int .i64 (l[i]).1) ∧ w.cell? ⟨b, off + i * 2 + 1, none⟩ = some (.string ⟨(l[i]).2.toArray⟩) := by
  rcases h with h | ⟨b', off', ha, _, hc⟩
  · subst h; simp at hi
  · cases ha; exact hc i hi

end Go.Proofs.Ytaigdimicnlfdaa
