/- Cells of one's own beside a reader's block. -/
import Derived.Test.YthfhffcimjolgaaGetF
import Derived.Test.YthfhffcimjolgaaDrawB
namespace Go.Proofs.Ythfhffcimjolgaa
open Go.RowKit

structure MineR (w : World) (r : Nat) (cs : List (Addr × Value)) (w' : World) : Prop where
  grown : w.grownBy w' (some r)
  rd : RdOk w' r
  low : r < w.heap.size
  all : ∀ x ∈ cs, w'.cell? x.1 = some x.2 ∧ w'.frozen? x.1 = false ∧ w.heap.size ≤ x.1.block ∧ x.1.spot = none

theorem frozen_kept {a b : World} {row : Option Nat} (hg : a.grownBy b row) {p : Addr} {v : Value} (h : a.cell? p = some v) (hne : some p.block ≠ row) (hf : a.frozen? p = false) : b.frozen? p = false := by
  rw [hg.frozen_far p (cell_in h) hne]
  exact hf
theorem MineR.start {w : World} {r : Nat} (h : RdOk w r) : MineR w r [] w := ⟨World.grownBy.refl _ _, h, h.lt, by simp⟩
theorem MineR.kept {w a b : World} {r : Nat} {cs : List (Addr × Value)} (h : MineR w r cs a) (hg : a.grownBy b (some r)) (hr : RdOk b r) : MineR w r cs b := by
  refine ⟨grownBy_trans h.grown hg, hr, h.low, fun x hx => ?_⟩
  obtain ⟨h1, h2, h3, h4⟩ := h.all x hx
  have hne : some x.1.block ≠ some r := by have := h.low; simp; omega
  exact ⟨hg.cell h1 hne, frozen_kept hg h1 hne h2, h3, h4⟩
theorem grown_any {a b : World} (h : a.grownBy b none) (row : Option Nat) : a.grownBy b row := ⟨h.os, h.tape, h.output, h.size, fun i hi _ => h.block i hi (by simp)⟩
theorem MineR.quiet {w a b : World} {r : Nat} {cs : List (Addr × Value)} (h : MineR w r cs a) (hg : a.grownBy b none) : MineR w r cs b := h.kept (grown_any hg _) (h.rd.kept hg (by simp) (by simp))
theorem MineR.drew {w a : World} {r : Nat} {cs : List (Addr × Value)} (h : MineR w r cs a) : MineR w r cs a.drew := h.quiet (grownBy_drewN 1)
theorem MineR.app {w a : World} {r : Nat} {cs ds : List (Addr × Value)} (h : MineR w r cs a) (k : MineR w r ds a) : MineR w r (cs ++ ds) a := by
  refine ⟨h.grown, h.rd, h.low, fun x hx => ?_⟩
  rcases List.mem_append.mp hx with hx | hx
  · exact h.all x hx
  · exact k.all x hx
theorem MineR.left {w a : World} {r : Nat} {cs ds : List (Addr × Value)} (h : MineR w r (cs ++ ds) a) : MineR w r cs a := ⟨h.grown, h.rd, h.low, fun x hx => h.all x (List.mem_append_left _ hx)⟩
theorem MineR.right {w a : World} {r : Nat} {cs ds : List (Addr × Value)} (h : MineR w r (cs ++ ds) a) : MineR w r ds a := ⟨h.grown, h.rd, h.low, fun x hx => h.all x (List.mem_append_right _ hx)⟩
/-- A block that is made. -/
theorem MineR.new {w a b : World} {r : Nat} {cs ds : List (Addr × Value)} (h : MineR w r cs a) (k : Mine a ds b) : MineR w r (cs ++ ds) b := by
  have h1 := h.quiet k.grown
  refine h1.app ⟨h1.grown, h1.rd, h1.low, fun x hx => ?_⟩
  obtain ⟨k1, k2, k3, k4⟩ := k.all x hx
  exact ⟨k1, k2, Nat.le_trans h.grown.size k3, k4⟩
theorem MineR.one {w b : World} {r : Nat} {ds : List (Addr × Value)} (h : RdOk w r) (k : Mine w ds b) : MineR w r ds b := ((MineR.start h).new k).right
theorem MineR.cell {w a : World} {r : Nat} {cs : List (Addr × Value)} (h : MineR w r cs a) (p : Addr) (v : Value) (hx : (p, v) ∈ cs) : a.cell? p = some v := (h.all _ hx).1
theorem MineR.free {w a : World} {r : Nat} {cs : List (Addr × Value)} (h : MineR w r cs a) (p : Addr) (v : Value) (hx : (p, v) ∈ cs) : a.frozen? p = false := (h.all _ hx).2.1
theorem grown_store {w a : World} {r k o : Nat} (x : Value) (h : w.grownBy a (some r)) (hk : w.heap.size ≤ k) : w.grownBy (a.setCell ⟨k, o, none⟩ x) (some r) := by
  have hs := grownBy_set a k o x
  exact ⟨hs.os.trans h.os, hs.tape.trans h.tape, hs.output.trans h.output, Nat.le_trans h.size hs.size, fun i hi hne => (hs.block i (Nat.lt_of_lt_of_le hi h.size) (by simp; omega)).trans (h.block i hi hne)⟩
theorem MineR.set {w a : World} {r : Nat} {cs : List (Addr × Value)} (h : MineR w r cs a) (p : Addr) (v x : Value) (hx : (p, v) ∈ cs) : MineR w r (cs.map fun y => (y.1, if p = y.1 then x else y.2)) (a.setCell p x) := by
  obtain ⟨B, o, s⟩ := p
  obtain ⟨h1, h2, h3, h4⟩ := h.all _ hx
  obtain rfl : s = none := h4
  have hlow := h.low
  simp only at h3
  refine ⟨grown_store x h.grown h3, h.rd.kept (grownBy_set a B o x) (by simp; omega) (fun k hk => by cases hk; omega), h.low, fun y hy => ?_⟩
  obtain ⟨z, hz, rfl⟩ := List.mem_map.mp hy
  obtain ⟨k1, k2, k3, k4⟩ := h.all z hz
  refine ⟨?_, by rw [World.frozen?_setCell]; exact k2, k3, k4⟩
  by_cases he : (⟨B, o, none⟩ : Addr) = z.1
  · rw [if_pos he]
    simp only
    rw [← he] at k1 ⊢
    exact World.cell?_setCell_same _ _ _ k1
  · rw [if_neg he]
    simp only
    rw [World.cell?_setCell_other _ _ _ _ he]
    exact k1

/-- Cells of one's own beside a reader of one's own. -/
structure MineE (w : World) (r : Nat) (cs : List (Addr × Value)) (w' : World) : Prop where
  grown : w.grownBy w' none
  rd : RdOk w' r
  low : w.heap.size ≤ r
  all : ∀ x ∈ cs, w'.cell? x.1 = some x.2 ∧ w'.frozen? x.1 = false ∧ w.heap.size ≤ x.1.block ∧ x.1.block ≠ r ∧ x.1.spot = none
theorem MineE.start {w w0 w1 : World} {cs : List (Addr × Value)} (h : Mine w cs w0) (hg : w0.grownBy w1 none) (hr : RdOk w1 w0.heap.size) : MineE w w0.heap.size cs w1 := by
  refine ⟨grownBy_trans h.grown hg, hr, h.grown.size, fun x hx => ?_⟩
  obtain ⟨h1, h2, h3, h4⟩ := h.all x hx
  exact ⟨hg.cell h1 (by simp), frozen_kept hg h1 (by simp) h2, h3, Nat.ne_of_lt (cell_in h1), h4⟩
theorem MineE.kept {w a b : World} {r : Nat} {cs : List (Addr × Value)} (h : MineE w r cs a) (hg : a.grownBy b (some r)) (hr : RdOk b r) : MineE w r cs b := by
  refine ⟨grownBy_new h.grown hg h.low, hr, h.low, fun x hx => ?_⟩
  obtain ⟨h1, h2, h3, h4, h5⟩ := h.all x hx
  have hne : some x.1.block ≠ some r := by simpa using h4
  exact ⟨hg.cell h1 hne, frozen_kept hg h1 hne h2, h3, h4, h5⟩
theorem MineE.quiet {w a b : World} {r : Nat} {cs : List (Addr × Value)} (h : MineE w r cs a) (hg : a.grownBy b none) : MineE w r cs b := h.kept (grown_any hg _) (h.rd.kept hg (by simp) (by simp))
theorem MineE.left {w a : World} {r : Nat} {cs ds : List (Addr × Value)} (h : MineE w r (cs ++ ds) a) : MineE w r cs a := ⟨h.grown, h.rd, h.low, fun x hx => h.all x (List.mem_append_left _ hx)⟩
theorem MineE.right {w a : World} {r : Nat} {cs ds : List (Addr × Value)} (h : MineE w r (cs ++ ds) a) : MineE w r ds a := ⟨h.grown, h.rd, h.low, fun x hx => h.all x (List.mem_append_right _ hx)⟩
theorem MineE.mine {w a : World} {r : Nat} {cs : List (Addr × Value)} (h : MineE w r cs a) : Mine w cs a := ⟨h.grown, fun x hx => let ⟨h1, h2, h3, _, h5⟩ := h.all x hx; ⟨h1, h2, h3, h5⟩⟩
theorem MineE.new {w a b : World} {r : Nat} {cs ds : List (Addr × Value)} (h : MineE w r cs a) (k : Mine a ds b) : MineE w r (cs ++ ds) b := by
  have h1 := h.quiet k.grown
  refine ⟨h1.grown, h1.rd, h1.low, fun x hx => ?_⟩
  rcases List.mem_append.mp hx with hx | hx
  · exact h1.all x hx
  · obtain ⟨k1, k2, k3, k4⟩ := k.all x hx
    have := h.rd.lt
    exact ⟨k1, k2, Nat.le_trans h.grown.size k3, by omega, k4⟩
theorem MineE.set {w a : World} {r : Nat} {cs : List (Addr × Value)} (h : MineE w r cs a) (p : Addr) (v x : Value) (hx : (p, v) ∈ cs) (hp : r < p.block) : MineE w r (cs.map fun y => (y.1, if p = y.1 then x else y.2)) (a.setCell p x) := by
  have hm := h.mine.set p v x hx
  obtain ⟨B, o, s⟩ := p
  obtain rfl : s = none := (h.all _ hx).2.2.2.2
  refine ⟨hm.grown, h.rd.kept (grownBy_set a B o x) (by simp at hp ⊢; omega) (fun k hk => by cases hk; exact hp), h.low, fun y hy => ?_⟩
  obtain ⟨h1, h2, h3, h4⟩ := hm.all y hy
  obtain ⟨z, hz, rfl⟩ := List.mem_map.mp hy
  exact ⟨h1, h2, h3, (h.all z hz).2.2.2.1, h4⟩

end Go.Proofs.Ythfhffcimjolgaa
