/- Rows of ints as owned memory: whether two rows are the same, marks; a frame that leaves out blocks between two numbers. -/
import Derived.Test.YteffpcgmoegomaaBr
namespace Go.Proofs.Yteffpcgmoegomaa
open Go.RowKit

def isV (l : List Int) : List Value := l.map (Value.int .i64)
theorem isV_len (l : List Int) : (isV l).length = l.length := by simp [isV]
theorem isV_get (l : List Int) (i : Nat) (h : i < l.length) : (isV l)[i]? = some (.int .i64 l[i]) := by simp [isV, h]
theorem isV_snoc (l : List Int) (x : Int) : isV (l ++ [x]) = isV l ++ [.int .i64 x] := by simp [isV]
def IAt (w : World) (a : Option Addr) (l : List Int) : Prop :=
  l = [] ∨ ∃ b off, a = some ⟨b, off, none⟩ ∧ b < w.heap.size ∧ ∀ i (h : i < l.length), w.cell? ⟨b, off + i, none⟩ = some (.int .i64 l[i])
theorem IAt.kept {w w' : World} {a : Option Addr} {l : List Int} (h : IAt w a l) (hg : w.grownBy w' none) : IAt w' a l := by
  rcases h with h | ⟨b, off, ha, hb, hc⟩
  · exact .inl h
  · exact .inr ⟨b, off, ha, Nat.lt_of_lt_of_le hb hg.size, fun i hi => hg.cell (hc i hi) (by simp)⟩
abbrev OwnI (w : World) (base : Nat) (a : Option Addr) (c : Nat) (l : List Int) : Prop := w.ownsRow base 2 1 (.slice a l.length c) l.length (isV l)
theorem i_own {w : World} {base : Nat} {a : Option Addr} {c : Nat} {l : List Int} (h : OwnI w base a c l) : IAt w a l := by
  rcases h.2 with ⟨_, h0⟩ | ⟨g, cap', cur, hv, _⟩
  · exact .inl (List.length_eq_zero_iff.mp h0)
  · simp at hv
    obtain ⟨rfl, rfl⟩ := hv
    refine .inr ⟨g, 0, rfl, (World.ownsRow.lt h g rfl).2, fun i hi => ?_⟩
    rw [Nat.zero_add, World.ownsRow.cellAt h i (by omega)]
    exact isV_get l i hi

structure MidBy (w w' : World) (lo hi : Nat) : Prop where
  os : w'.os = w.os
  tape : w'.tape = w.tape
  output : w'.output = w.output
  size : w.heap.size ≤ w'.heap.size
  block : ∀ k, k < w.heap.size → (k < lo ∨ hi ≤ k) → w'.heap[k]? = w.heap[k]?
theorem MidBy.refl (w : World) (lo hi : Nat) : MidBy w w lo hi := ⟨rfl, rfl, rfl, Nat.le_refl _, fun _ _ _ => rfl⟩
theorem MidBy.trans {a b c : World} {lo hi : Nat} (h : MidBy a b lo hi) (k : MidBy b c lo hi) : MidBy a c lo hi :=
  ⟨k.os.trans h.os, k.tape.trans h.tape, k.output.trans h.output, Nat.le_trans h.size k.size, fun i hi ho => (k.block i (Nat.lt_of_lt_of_le hi h.size) ho).trans (h.block i hi ho)⟩
theorem MidBy.free {w w' : World} (h : w.grownBy w' none) (lo hi : Nat) : MidBy w w' lo hi := ⟨h.os, h.tape, h.output, h.size, fun i hl _ => h.block i hl (by simp)⟩
theorem MidBy.only {w w' : World} {g lo hi : Nat} (h : w.grownBy w' (some g)) (h0 : lo ≤ g) (h1 : g < hi) : MidBy w w' lo hi := ⟨h.os, h.tape, h.output, h.size, fun i hl ho => h.block i hl (by simp; omega)⟩
theorem MidBy.grown {w a b : World} {lo hi : Nat} (h : w.grownBy a none) (k : MidBy a b lo hi) (hl : w.heap.size ≤ lo) : w.grownBy b none :=
  ⟨k.os.trans h.os, k.tape.trans h.tape, k.output.trans h.output, Nat.le_trans h.size k.size, fun i hi _ => (k.block i (Nat.lt_of_lt_of_le hi h.size) (.inl (by omega))).trans (h.block i hi (by simp))⟩
theorem MidBy.own {a b : World} {lo hi B : Nat} {e : TypeId} {v : Value} {n s : Nat} {xs : List Value} (h : a.ownsRow B e s v n xs) (k : MidBy a b lo hi) (hB : hi ≤ B) : b.ownsRow B e s v n xs := by
  rcases h with ⟨h1, h2 | ⟨g, cap, cur, h3, h4, h5, h6⟩⟩
  · exact ⟨h1, .inl h2⟩
  · exact ⟨h1, .inr ⟨g, cap, cur, h3, h4, (k.block g (Array.getElem?_eq_some_iff.1 h5).1 (.inr (by omega))).trans h5, h6⟩⟩

def EqIRel (w : World) (n : Nat) (i : Value) (wr : World) : Prop := ∃ j : Nat, j ≤ n ∧ i = .int .i64 j ∧ w.grownBy wr none

def mkI (k0 : Int) (n : Nat) : List Int := (List.range n).map fun (i : Nat) => k0 + (i : Int)
theorem mkI_len (k0 : Int) (n : Nat) : (mkI k0 n).length = n := by simp [mkI]
theorem mkI_at (k0 : Int) (n j : Nat) (h : j < (mkI k0 n).length) : (mkI k0 n)[j] = k0 + (j : Int) := by simp [mkI]
theorem is_set (l : List Int) (M : List Value) (j : Nat) (h : j < l.length) (hM : M.length = l.length) :
    (isV (l.take j) ++ M.drop j).set j (.int .i64 l[j]) = isV (l.take (j + 1)) ++ M.drop (j + 1) := by
  have e1 : M.drop j = M[j] :: M.drop (j + 1) := List.drop_eq_getElem_cons (by omega)
  have e2 : (isV (l.take j)).length = j := by rw [isV_len, List.length_take]; omega
  have e3 : isV (l.take (j + 1)) = isV (l.take j) ++ [.int .i64 l[j]] := by rw [List.take_succ_eq_append_getElem h, isV_snoc]
  rw [e1, e3, List.set_append_right _ _ (by omega), e2, Nat.sub_self, List.set_cons_zero]
  simp
def IkRel (w : World) (base g cap n : Nat) (k0 : Int) (l : List Int) (k i : Value) (wr : World) : Prop :=
  ∃ j : Nat, j ≤ n ∧ i = .int .i64 j ∧ k = .int .i64 (k0 + (j : Int)) ∧ w.grownBy wr (some g) ∧ wr.ownsRow base 2 1 (.slice (some ⟨g, 0, none⟩) n cap) n (isV ((mkI k0 n).take j) ++ (isV l).drop j)

def HdIRel (w : World) (n : Nat) (k0 : Int) (k i : Value) (wr : World) : Prop :=
  ∃ j : Nat, j ≤ n ∧ i = .int .i64 j ∧ k = .int .i64 (k0 + (j : Int)) ∧ w.grownBy wr none

end Go.Proofs.Yteffpcgmoegomaa
