/- What is known at a place: the model's byte, and the law's. -/
import Derived.Test.YtaigdimicnlfdaaPcTo
namespace Go.Proofs.Ytaigdimicnlfdaa
open Go.RowKit

def byteV : Option UInt8 → Int
  | some b => (b.toNat : Int)
  | none => -1

def pc2 (x : Pk) : Prop := 0 ≤ x.1 ∧ x.1 ≤ 1000000 ∧ x.2.length ≤ 1000000

def ByRel (w : World) (l : List Pk) (q : Int) (i : Value) (wr : World) : Prop :=
  ∃ j : Nat, j ≤ l.length ∧ i = .int .i64 j ∧ w.grownBy wr none ∧ byteL (l.drop j) q = byteL l q

theorem endL_snoc (l : List Pk) (k : Nat) (h : l.length = k + 1) : endL l = (l[k]'(by omega)).1 + ((l[k]'(by omega)).2.length : Int) := by
  have e : l.getLast? = some (l[k]'(by omega)) := by rw [List.getLast?_eq_getElem?, show l.length - 1 = k by omega]; exact List.getElem?_eq_getElem (by omega)
  rw [endL, e]

end Go.Proofs.Ytaigdimicnlfdaa
