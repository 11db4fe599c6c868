/- The drawings of texts, and of a number with a width: each answers some text or numbers, and writes nothing that was there. -/
import Derived.Test.YteffpcgmoegomaaTurn
namespace Go.Proofs.Yteffpcgmoegomaa
open Go.RowKit

theorem ba_append (a b : List UInt8) : ((⟨a.toArray⟩ : ByteArray) ++ ⟨b.toArray⟩) = ⟨(a ++ b).toArray⟩ := by
  apply ByteArray.ext
  simp
theorem ba_of {s : ByteArray} {l : List UInt8} (h : s.data.toList = l) : s = ⟨l.toArray⟩ := by
  subst h
  simp
theorem ret_ba {a b : ByteArray} (h : a = b) : Ending.returned (.string a) = .returned (.string b) := by rw [h]

/-- Some text of so many bytes at the most. -/
def TextPost (w : World) (r : Nat) (most : Nat) (e : Ending) (w' : World) : Prop :=
  ∃ l : List UInt8, l.length ≤ most ∧ e = .returned (.string ⟨l.toArray⟩) ∧ w.grownBy w' (some r) ∧ RdOk w' r

theorem grown_row {w a b : World} {r : Nat} {v : Value} {n : Nat} {xs : List Value} {e : TypeId} {size : Nat} (h : w.grownBy a (some r)) (k : a.grownBy b v.ownBlock) (ho : a.ownsRow w.heap.size e size v n xs) : w.grownBy b (some r) :=
  ⟨k.os.trans h.os, k.tape.trans h.tape, k.output.trans h.output, Nat.le_trans h.size k.size, fun i hi hne => (k.block i (Nat.lt_of_lt_of_le hi h.size) (fun e => by have := ho.lt i e.symm; omega)).trans (h.block i hi hne)⟩

def BytesRel (w : World) (r most : Nat) (v i : Value) (wr : World) : Prop :=
  ∃ (j : Nat) (l : List UInt8), j + l.length ≤ most ∧ i = .int .i64 (j : Nat) ∧ wr.ownsRow w.heap.size 5 1 v l.length (bytesV l) ∧ w.grownBy wr (some r) ∧ RdOk wr r

def DrawTPost (w : World) (most : Nat) (e : Ending) (w' : World) : Prop :=
  ∃ l : List UInt8, l.length ≤ most ∧ e = .returned (.string ⟨l.toArray⟩) ∧ w.grownBy w' none

def DrawNPost (w : World) (e : Ending) (w' : World) : Prop :=
  ∃ u v : Int, (Lit.int .i64 u).wf = true ∧ (Lit.int .i64 v).wf = true ∧ e = .returned (.tuple #[.int .i64 u, .int .i64 v]) ∧ w.grownBy w' none

end Go.Proofs.Yteffpcgmoegomaa
