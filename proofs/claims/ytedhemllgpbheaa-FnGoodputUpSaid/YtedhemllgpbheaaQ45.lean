/- NtO -/
import Derived.Test.YtedhemllgpbheaaQ4
import Derived.Test.YtedhemllgpbheaaQ44
namespace Go.Proofs.Ytedhemllgpbheaa
open Go.RowKit Go.ChangeShapes Go.WideShapes

def NtOw (W : World) (S hi : Nat) (u : Nt) : Prop := ∃ q, u.a = some ⟨q, 0, none⟩ ∧ S < q ∧ q < hi ∧ W.ownsRow (S + 1) 44 2 (.slice (some ⟨q, 0, none⟩) u.l.length u.c) u.l.length (rgsV u.l)
theorem NtOw.kept {W W' : World} {S hi : Nat} {u : Nt} (h : NtOw W S hi u) (hg : W.grownBy W' none) : NtOw W' S hi u := by
  obtain ⟨q, h1, h2, h3, h4⟩ := h
  exact ⟨q, h1, h2, h3, own_kept h4 hg⟩
theorem NtOw.mono {W : World} {S hi hj : Nat} {u : Nt} (h : NtOw W S hi u) (hh : hi ≤ hj) : NtOw W S hj u := by
  obtain ⟨q, h1, h2, h3, h4⟩ := h
  exact ⟨q, h1, h2, Nat.lt_of_lt_of_le h3 hh, h4⟩
theorem NtOw.set {W : World} {S hi : Nat} {u : Nt} (h : NtOw W S hi u) (o : Nat) (v : Value) : NtOw (W.setCell ⟨S, o, none⟩ v) S hi u := by
  obtain ⟨q, h1, h2, h3, h4⟩ := h
  exact ⟨q, h1, h2, h3, h4.kept (grownBy_set W S o v) (.inr (by simp [Value.ownBlock]; omega))⟩
structure OwnNts (W : World) (S hi : Nat) (us : List Nt) : Prop where
  row : W.ownsRow S 33 4 (.slice (some ⟨S, 0, none⟩) us.length us.length) us.length (ntsV us)
  sub : ∀ u ∈ us, NtOw W S hi u
  dis : us.Pairwise (fun u v => u.a ≠ v.a)
  lt : S < hi
theorem OwnNts.kept {W W' : World} {S hi : Nat} {us : List Nt} (h : OwnNts W S hi us) (hg : W.grownBy W' none) : OwnNts W' S hi us := ⟨own_kept h.row hg, fun u hu => (h.sub u hu).kept hg, h.dis, h.lt⟩
end Go.Proofs.Ytedhemllgpbheaa

