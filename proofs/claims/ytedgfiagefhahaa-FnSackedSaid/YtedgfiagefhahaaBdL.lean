/- The laws' own helpers of boards: their size, a copy of them, whether two are the same, their marks. -/
import Derived.Test.YtedgfiagefhahaaBdF
namespace Go.Proofs.Ytedgfiagefhahaa
open Go.RowKit

abbrev rowV (a : Option Addr) (c : Nat) (l : List Rg) : Value := .slice a l.length c
abbrev OwnRg (w : World) (B : Nat) (a : Option Addr) (c : Nat) (l : List Rg) : Prop := w.ownsRow B 40 2 (.slice a l.length c) l.length (rgsV l)

theorem Mine.keptR {w a b : World} {r : Option Nat} {cs : List (Addr × Value)} (h : Mine w cs a) (hg : a.grownBy b r) (hw : w.grownBy b none) (hr : ∀ g, r = some g → ∀ x ∈ cs, x.1.block ≠ g) : Mine w cs b := by
  refine ⟨hw, fun x hx => ?_⟩
  obtain ⟨h1, h2, h3, h4⟩ := h.all x hx
  have hne : some x.1.block ≠ r := fun e => hr _ e.symm x hx rfl
  refine ⟨hg.cell h1 hne, ?_, h3, h4⟩
  rw [hg.frozen_far x.1 (cell_in h1) hne]
  exact h2
theorem OwnRg.at {w : World} {B : Nat} {a : Option Addr} {c : Nat} {l : List Rg} (h : OwnRg w B a c l) : RgAt w a l := rg_own h

def ToBPost (w : World) (u n : Int) (l : List Rg) (e : Ending) (w' : World) : Prop :=
  ∃ q : Nat, e = .returned (bdV u n (some ⟨q, 0, none⟩) l.length l.length) ∧ w.grownBy w' none ∧ OwnRg w' w.heap.size (some ⟨q, 0, none⟩) l.length l

theorem own_set {w : World} {B q C o c : Nat} {v : Value} {l : List Rg} (h : OwnRg w B (some ⟨q, 0, none⟩) c l) (hne : C ≠ q) : OwnRg (w.setCell ⟨C, o, none⟩ v) B (some ⟨q, 0, none⟩) c l :=
  h.kept (grownBy_set w C o v) (.inr (by simp [Value.ownBlock]; omega))
theorem bd_three (w : World) (x y z z0 : Value) (T U V : TypeId) : Mine w (bdCells w.heap.size x y z ++ bdCells (w.heap.size + 1) (.int .i64 0) (.int .i64 0) z0 ++ bdCells (w.heap.size + 1 + 1) x y z0)
    (((w.alloc (.cells #[x, y, z] T)).alloc (.cells #[.int .i64 0, .int .i64 0, z0] U)).alloc (.cells #[x, y, z0] V)) := by
  have h1 := bd_new w x y z T
  have e1 := alloc_size w (.cells #[x, y, z] T)
  generalize w.alloc (.cells #[x, y, z] T) = w1 at *
  have h2 := bd_new w1 (.int .i64 0) (.int .i64 0) z0 U
  have e2 := alloc_size w1 (.cells #[.int .i64 0, .int .i64 0, z0] U)
  generalize w1.alloc (.cells #[.int .i64 0, .int .i64 0, z0] U) = w2 at *
  have h3 := bd_new w2 x y z0 V
  have h2b := h2.base h1.grown
  have h3b := h3.base (grownBy_trans h1.grown h2.grown)
  rw [e1] at h2b
  rw [e2, e1] at h3b
  have k3 := h3.grown
  have j1 := (h1.kept h2.grown).kept k3
  have j2 := h2b.kept k3
  refine ⟨j1.grown, fun x hx => ?_⟩
  rcases List.mem_append.mp hx with hx | hx
  · rcases List.mem_append.mp hx with hx | hx
    · exact j1.all x hx
    · exact j2.all x hx
  · exact h3b.all x hx
theorem res3_grown {w a : World} {R : Nat} (x y z : Value) (h : w.grownBy a none) (hR : w.heap.size ≤ R) : w.grownBy (((a.setCell ⟨R, 0, none⟩ x).setCell ⟨R, 1, none⟩ y).setCell ⟨R, 2, none⟩ z) none :=
  grownBy_new h (grownBy_trans (grownBy_trans (grownBy_set _ _ _ _) (grownBy_set _ _ _ _)) (grownBy_set _ _ _ _)) hR

end Go.Proofs.Ytedgfiagefhahaa
