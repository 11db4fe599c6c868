/- The drawings of the laws on pieces. -/
import Derived.Test.YtaigdimicnlfdaaPcDr
namespace Go.Proofs.Ytaigdimicnlfdaa
open Go.RowKit

theorem pksV_set1 : ∀ (l : List Pk) (k : Nat) (h : k < l.length) (p : Int), pksV (l.set k (p, (l[k]).2)) = (pksV l).set (k * 2) (.int .i64 p)
  | x :: l, 0, _, p => by simp [pksV, pkV]
  | x :: l, k + 1, h, p => by
    have ih := pksV_set1 l k (by simpa using h) p
    have e : ∀ (y : Pk) (m : List Pk), pksV (y :: m) = .int .i64 y.1 :: .string ⟨y.2.toArray⟩ :: pksV m := fun _ _ => rfl
    rw [List.set_cons_succ, e, show (k + 1) * 2 = k * 2 + 1 + 1 by omega, e, List.set_cons_succ, List.set_cons_succ]
    simp only [List.getElem_cons_succ]
    rw [ih]
def DOkPost (w : World) (e : Ending) (w' : World) : Prop :=
  ∃ (l : List Pk) (v : Value), l.length ≤ 4 ∧ e = .returned v ∧ w.grownBy w' none ∧ w'.ownsRow w.heap.size 57 2 v l.length (pksV l)
theorem own_ne {w : World} {B r : Nat} {e : TypeId} {v : Value} {n s : Nat} {xs : List Value} (h : w.ownsRow B e s v n xs) (hr : r < B) : v.ownBlock = none ∨ v.ownBlock ≠ some r := by
  by_cases hn : v.ownBlock = none
  · exact .inl hn
  · exact .inr fun e => by have := (h.lt _ e).1; omega

def DHoPost (w : World) (e : Ending) (w' : World) : Prop :=
  ∃ (l : List Pk) (v : Value) (t : Int), Small l 4 ∧ e = .returned (.tuple #[v, .int .i64 t]) ∧ w.grownBy w' none ∧ w'.ownsRow w.heap.size 57 2 v l.length (pksV l)

def DAdPost (w : World) (e : Ending) (w' : World) : Prop :=
  ∃ (l : List Pk) (v : Value) (p : Int) (m : List UInt8), Small l 4 ∧ NearPk (p, m) ∧ e = .returned (.tuple #[v, .agg #[.int .i64 p, .string ⟨m.toArray⟩]]) ∧ w.grownBy w' none ∧ w'.ownsRow w.heap.size 57 2 v l.length (pksV l)

end Go.Proofs.Ytaigdimicnlfdaa
