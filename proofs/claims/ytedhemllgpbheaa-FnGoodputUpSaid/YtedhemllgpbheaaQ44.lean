/- Ir -/
import Derived.Test.YtedhemllgpbheaaQ3
namespace Go.Proofs.Ytedhemllgpbheaa
open Go.RowKit

def isV (l : List Int) : List Value := l.map (Value.int .i64)
theorem isV_get (l : List Int) (i : Nat) (h : i < l.length) : (isV l)[i]? = some (.int .i64 l[i]) := by simp [isV, h]
theorem isV_snoc (l : List Int) (x : Int) : isV (l ++ [x]) = isV l ++ [.int .i64 x] := by simp [isV]
def IAt (w : World) (a : Option Addr) (l : List Int) : Prop :=
  l = [] ∨ ∃ b off, a = some ⟨b, off, none⟩ ∧ b < w.heap.size ∧ ∀ i (h : i < l.length), w.cell? ⟨b, off + i, none⟩ = some (.int .i64 l[i])
theorem IAt.kept {w w' : World} {a : Option Addr} {l : List Int} (h : IAt w a l) (hg : w.grownBy w' none) : IAt w' a l := by
  rcases h with h | ⟨b, off, ha, hb, hc⟩
  · exact .inl h
  · exact .inr ⟨b, off, ha, Nat.lt_of_lt_of_le hb hg.size, fun i hi => hg.cell (hc i hi) (by simp)⟩
abbrev OwnI (w : World) (base : Nat) (a : Option Addr) (c : Nat) (l : List Int) : Prop := w.ownsRow base 2 1 (.slice a l.length c) l.length (isV l)
theorem i_own {w : World} {base : Nat} {a : Option Addr} {c : Nat} {l : List Int} (h : OwnI w base a c l) : IAt w a l := by
  rcases h.2 with ⟨_, h0⟩ | ⟨g, cap', cur, hv, _⟩
  · exact .inl (List.length_eq_zero_iff.mp h0)
  · simp at hv
    obtain ⟨rfl, rfl⟩ := hv
    refine .inr ⟨g, 0, rfl, (World.ownsRow.lt h g rfl).2, fun i hi => ?_⟩
    rw [Nat.zero_add, World.ownsRow.cellAt h i (by omega)]
    exact isV_get l i hi

structure MidBy (w w' : World) (lo hi : Nat) : Prop where
  os : w'.os = w.os
  tape : w'.tape = w.tape
  output : w'.output = w.output
  size : w.heap.size ≤ w'.heap.size
  block : ∀ k, k < w.heap.size → (k < lo ∨ hi ≤ k) → w'.heap[k]? = w.heap[k]?
theorem MidBy.refl (w : World) (lo hi : Nat) : MidBy w w lo hi := ⟨rfl, rfl, rfl, Nat.le_refl _, fun _ _ _ => rfl⟩
theorem MidBy.trans {a b c : World} {lo hi : Nat} (h : MidBy a b lo hi) (k : MidBy b c lo hi) : MidBy a c lo hi :=
  ⟨k.os.trans h.os, k.tape.trans h.tape, k.output.trans h.output, Nat.le_trans h.size k.size, fun i hi ho => (k.block i (Nat.lt_of_lt_of_le hi h.size) ho).trans (h.block i hi ho)⟩
theorem MidBy.only {w w' : World} {g lo hi : Nat} (h : w.grownBy w' (some g)) (h0 : lo ≤ g) (h1 : g < hi) : MidBy w w' lo hi := ⟨h.os, h.tape, h.output, h.size, fun i hl ho => h.block i hl (by simp; omega)⟩
theorem MidBy.own {a b : World} {lo hi B : Nat} {e : TypeId} {v : Value} {n s : Nat} {xs : List Value} (h : a.ownsRow B e s v n xs) (k : MidBy a b lo hi) (hB : hi ≤ B) : b.ownsRow B e s v n xs := by
  rcases h with ⟨h1, h2 | ⟨g, cap, cur, h3, h4, h5, h6⟩⟩
  · exact ⟨h1, .inl h2⟩
  · exact ⟨h1, .inr ⟨g, cap, cur, h3, h4, (k.block g (Array.getElem?_eq_some_iff.1 h5).1 (.inr (by omega))).trans h5, h6⟩⟩

def EqIRel (w : World) (n : Nat) (i : Value) (wr : World) : Prop := ∃ j : Nat, j ≤ n ∧ i = .int .i64 j ∧ w.grownBy wr none

end Go.Proofs.Ytedhemllgpbheaa

