/- Contract of the model's turning of a text, and the tools for rows of bytes that a call makes itself. -/
import Derived.Test.YthfhffcimjolgaaGet
import Derived.Test.YthfhffcimjolgaaDraw
import Derived.Laws.IdiomStrings
namespace Go.Proofs.Ythfhffcimjolgaa
open Go.RowKit

theorem info5 : (Try.prog.info? 5).map (fun i => (i.zero, i.size, i.bytes)) = some (some (.int .u8 0), 1, 1) := by kernel_rfl

def bytesV (l : List UInt8) : List Value := l.map fun b => Value.int .u8 (b.toNat : Int)
theorem bytesV_length (l : List UInt8) : (bytesV l).length = l.length := by simp [bytesV]

/-- A row of bytes of the call's own, as a text. -/
theorem conv_row {w : World} {base n : Nat} {v : Value} {l : List UInt8} (hl : l.length = n) (h : w.ownsRow base 5 1 v n (bytesV l)) : (convert 22 9 v).run Try.prog w = .ok (.string ⟨l.toArray⟩) w := by
  rcases h.2 with ⟨rfl, rfl⟩ | ⟨g, cap, cur, rfl, hb, hg, hnc, hcm, hcs, htake⟩
  · have : l = [] := List.eq_nil_of_length_eq_zero hl
    subst this
    rw [run_convert_bytes_string w 22 9 5 none 0 0 Try.underlying22 Try.underlying5 Try.underlying9]
    rfl
  · subst hl
    refine run_convert_bytes_back w 22 9 5 ⟨g, 0, none⟩ cap l Try.underlying22 Try.underlying5 Try.underlying9 fun j hj => ?_
    have := h.cells (g := g) rfl j (.int .u8 (l[j].toNat : Int)) (by simp [bytesV, List.getElem?_eq_getElem hj])
    exact this

theorem grown_own {w a b : World} {v : Value} {n : Nat} {xs : List Value} {e : TypeId} {size : Nat} (h : w.grownBy a none) (k : a.grownBy b v.ownBlock) (ho : a.ownsRow w.heap.size e size v n xs) : w.grownBy b none :=
  ⟨k.os.trans h.os, k.tape.trans h.tape, k.output.trans h.output, Nat.le_trans h.size k.size, fun i hi _ => (k.block i (Nat.lt_of_lt_of_le hi h.size) (fun e => by have := ho.lt i e.symm; omega)).trans (h.block i hi (by simp))⟩

theorem drop_snoc (s : ByteArray) (q : Nat) (h : q < s.size) : bytesV (s.data.toList.drop (q + 1)).reverse ++ [Value.int .u8 (s[q].toNat : Int)] = bytesV (s.data.toList.drop q).reverse := by
  have e : s.data.toList.drop q = s[q] :: s.data.toList.drop (q + 1) := by
    rw [List.drop_eq_getElem_cons (by simpa using h)]; rfl
  rw [e, List.reverse_cons]
  simp [bytesV]

def StrPost (w : World) (l : List UInt8) (e : Ending) (w' : World) : Prop := e = .returned (.string ⟨l.toArray⟩) ∧ w.grownBy w' none

def TurnRel (s : ByteArray) (w : World) (v i : Value) (wr : World) : Prop :=
  ∃ j : Nat, j ≤ s.size ∧ ((j = 0 ∧ i = .int .i64 (-1)) ∨ ∃ q, j = q + 1 ∧ i = .int .i64 (q : Nat)) ∧
    wr.ownsRow w.heap.size 5 1 v (s.size - j) (bytesV (s.data.toList.drop j).reverse) ∧ w.grownBy wr none

end Go.Proofs.Ythfhffcimjolgaa
