/- One piece more: the model's. -/
import Derived.Test.YtaigdimicnlfdaaPcBy
namespace Go.Proofs.Ytaigdimicnlfdaa
open Go.RowKit

theorem pk_one (w : World) (p : Int) (m : List UInt8) (T : TypeId) (b : Nat) (hb : b = w.heap.size) : PkAt (w.alloc (.cells #[.int .i64 p, .string ⟨m.toArray⟩] T)) (some ⟨b, 0, none⟩) [(p, m)] := by
  subst hb
  refine .inr ⟨w.heap.size, 0, rfl, by simp, fun i hi => ?_⟩
  obtain rfl : i = 0 := by simp at hi; omega
  exact ⟨by simp, by simp⟩
theorem pksV_snoc (l : List Pk) (a : Int) (b : List UInt8) : pksV (l ++ [(a, b)]) = pksV l ++ [.int .i64 a, .string ⟨b.toArray⟩] := by simp [pksV, pkV]
def AdRel (w : World) (p : Int) (m : List UInt8) (f : Int → Option UInt8) (N : Nat) (v nv av : Value) (wr : World) : Prop :=
  ∃ (n A : Nat) (now : List UInt8) (out : List Pk), av = .int .i64 (A : Int) ∧ nv = .string ⟨now.toArray⟩ ∧ A + n = N ∧ now.length ≤ A ∧ out.length ≤ A ∧ w.grownBy wr none ∧ wr.cell? ⟨w.heap.size, 0, none⟩ = some (.int .i64 p) ∧ wr.cell? ⟨w.heap.size, 1, none⟩ = some (.string ⟨m.toArray⟩) ∧ wr.ownsRow (w.heap.size + 1) 57 2 v out.length (pksV out) ∧ scan f n A now out = scan f N 0 [] []
def AddedPost (w : World) (l : List Pk) (x : Pk) (e : Ending) (w' : World) : Prop :=
  ∃ v, e = .returned v ∧ w.grownBy w' none ∧ w'.ownsRow w.heap.size 57 2 v (withL l x).length (pksV (withL l x))
theorem own_base {w : World} {B B' : Nat} {e : TypeId} {v : Value} {n s : Nat} {xs : List Value} (h : w.ownsRow B e s v n xs) (hB : B' ≤ B) : w.ownsRow B' e s v n xs := by
  rcases h with ⟨h1, h2 | ⟨g, cap, cur, h3, h4, h5⟩⟩
  · exact ⟨h1, .inl h2⟩
  · exact ⟨h1, .inr ⟨g, cap, cur, h3, Nat.le_trans hB h4, h5⟩⟩

end Go.Proofs.Ytaigdimicnlfdaa
