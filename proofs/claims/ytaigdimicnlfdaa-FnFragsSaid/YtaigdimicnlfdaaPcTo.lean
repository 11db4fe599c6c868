/- A copy of a row of pieces, with its memory's own. -/
import Derived.Test.YtaigdimicnlfdaaRgMark
namespace Go.Proofs.Ytaigdimicnlfdaa
open Go.RowKit

def ToOwn (w : World) (l : List Pk) (e : Ending) (w' : World) : Prop :=
  ∃ g : Nat, e = .returned (.slice (some ⟨g, 0, none⟩) l.length l.length) ∧ w.grownBy w' none ∧ w'.ownsRow w.heap.size 57 2 (.slice (some ⟨g, 0, none⟩) l.length l.length) l.length (pksV l)

theorem own_apart2 {w a : World} {B C : Nat} {e e' : TypeId} {u v : Value} {n m s s' : Nat} {xs ys : List Value} (h : w.ownsRow B e s u n xs) (k : a.ownsRow C e' s' v m ys) (hC : w.heap.size ≤ C) : v.ownBlock = none ∨ v.ownBlock ≠ u.ownBlock := by
  cases hv : v.ownBlock with
  | none => exact .inl rfl
  | some g =>
    refine .inr fun e => ?_
    have h1 := (h.lt g e.symm).2
    have h2 := (k.lt g hv).1
    omega

theorem own_apart1 {w a : World} {B C : Nat} {e e' : TypeId} {u v : Value} {n m s s' : Nat} {xs ys : List Value} (h : w.ownsRow B e s u n xs) (k : a.ownsRow C e' s' v m ys) (hC : w.heap.size ≤ C) : u.ownBlock = none ∨ u.ownBlock ≠ v.ownBlock := by
  cases hu : u.ownBlock with
  | none => exact .inl rfl
  | some g =>
    refine .inr fun e => ?_
    have h1 := (h.lt g hu).2
    have h2 := (k.lt g e.symm).1
    omega

end Go.Proofs.Ytaigdimicnlfdaa
