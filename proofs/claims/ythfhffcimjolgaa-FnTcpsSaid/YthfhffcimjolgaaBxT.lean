/- Blocks of one's own, of any number of cells. -/
import Derived.Test.YthfhffcimjolgaaTcpS
import Derived.Deep.RegionWith
import Derived.Deep.DeepCutAuto
import Derived.Lib.Hide
import Derived.RangeFuncBox
namespace Go.Proofs.Ythfhffcimjolgaa
open Go.RowKit

theorem gA {w W : World} (h : w.grownBy W none) (o : Obj) : w.grownBy (W.alloc o) none := grownBy_trans h (World.grownBy_alloc _ _ _)
theorem gD {w W : World} (h : w.grownBy W none) (k : Nat) : w.grownBy (W.drewN k) none := grownBy_trans h (grownBy_drewN k)
theorem gd {w W : World} (h : w.grownBy W none) : w.grownBy W.drew none := grownBy_trans h ⟨rfl, rfl, rfl, Nat.le_refl _, fun _ _ _ => rfl⟩
theorem gS {w W : World} (h : w.grownBy W none) {b : Nat} (hb : w.heap.size ≤ b) (i : Nat) (v : Value) : w.grownBy (W.setCell ⟨b, i, none⟩ v) none :=
  ⟨h.os, h.tape, h.output, by simp [World.setCell]; exact h.size, fun k hk hne => (Below.heap_setCell _ _ _ k (by simp; omega)).trans (h.block k hk hne)⟩
theorem gE {w W : World} {r : Nat} (h : w.grownBy W none) : w.grownBy W (some r) := ⟨h.os, h.tape, h.output, h.size, fun k hk _ => h.block k hk (by simp)⟩
theorem gSr {w W : World} {r : Nat} (h : w.grownBy W (some r)) {b : Nat} (hb : w.heap.size ≤ b) (i : Nat) (v : Value) : w.grownBy (W.setCell ⟨b, i, none⟩ v) (some r) :=
  ⟨h.os, h.tape, h.output, by simp [World.setCell]; exact h.size, fun k hk hne => (Below.heap_setCell _ _ _ k (by simp; omega)).trans (h.block k hk hne)⟩
theorem grown_frz {a b : World} {row : Option Nat} (hg : a.grownBy b row) {p : Addr} {v : Value} (h : a.cell? p = some v) (hne : some p.block ≠ row) {x : Bool} (hf : a.frozen? p = x) : b.frozen? p = x := by
  rw [World.frozen?_of_block (hg.block p.block (World.block_lt_of_cell? a p h) hne)]
  exact hf

/-- A block that holds just these cells, in no use as a row. -/
def Bx (W : World) (B : Nat) (t : TypeId) (xs : Array Value) : Prop := W.heap[B]? = some (.cells xs t (0, 0))
theorem Bx.lt {W : World} {B : Nat} {t : TypeId} {xs : Array Value} (h : Bx W B t xs) : B < W.heap.size := (Array.getElem?_eq_some_iff.1 h).1
theorem Bx.c {W : World} {B : Nat} {t : TypeId} {xs : Array Value} (h : Bx W B t xs) (i : Nat) {x : Value} (hx : xs[i]? = some x) : W.cell? ⟨B, i, none⟩ = some x := by simp [World.cell?, show W.heap[B]? = _ from h, hx]
theorem Bx.f {W : World} {B : Nat} {t : TypeId} {xs : Array Value} (h : Bx W B t xs) (i : Nat) : W.frozen? ⟨B, i, none⟩ = false := by simp [World.frozen?, show W.heap[B]? = _ from h]
theorem Bx.new (W : World) (t : TypeId) (xs : Array Value) : Bx (W.alloc (.cells xs t)) W.heap.size t xs := World.alloc_heap_new W _
theorem Bx.kept {W W' : World} {row : Option Nat} {B : Nat} {t : TypeId} {xs : Array Value} (h : Bx W B t xs) (hg : W.grownBy W' row) (hne : some B ≠ row) : Bx W' B t xs := (hg.block B h.lt hne).trans h
theorem Bx.keep {W W' : World} {B : Nat} {t : TypeId} {xs : Array Value} (h : Bx W B t xs) (hg : W.grownBy W' none) : Bx W' B t xs := h.kept hg (by simp)
theorem Bx.alloc {W : World} {B : Nat} {t : TypeId} {xs : Array Value} (h : Bx W B t xs) (o : Obj) : Bx (W.alloc o) B t xs := h.keep (World.grownBy_alloc W o none)
theorem Bx.drew {W : World} {B : Nat} {t : TypeId} {xs : Array Value} (h : Bx W B t xs) (k : Nat) : Bx (W.drewN k) B t xs := h.keep (grownBy_drewN k)
theorem Bx.s {W : World} {B : Nat} {t : TypeId} {xs : Array Value} (h : Bx W B t xs) (i : Nat) (y : Value) : Bx (W.setCell ⟨B, i, none⟩ y) B t (xs.setIfInBounds i y) := by
  obtain ⟨hlt, hk⟩ := Array.getElem?_eq_some_iff.1 h
  show (W.heap.modify B _)[B]? = _
  rw [Array.getElem?_eq_getElem (by rw [Array.size_modify]; exact hlt), Array.getElem_modify_self, hk]
  rfl
theorem Bx.other {W : World} {B : Nat} {t : TypeId} {xs : Array Value} (h : Bx W B t xs) {B' : Nat} (hne : B ≠ B') (i : Nat) (u : Value) : Bx (W.setCell ⟨B', i, none⟩ u) B t xs := (Below.heap_setCell _ _ _ B hne).trans h

theorem set4 {W : World} {B : Nat} {t : TypeId} {x0 x1 x2 x3 : Value} (h : Bx W B t #[x0, x1, x2, x3]) (v0 v1 v2 v3 : Value) : Bx ((((W.setCell ⟨B, 0, none⟩ v0).setCell ⟨B, 1, none⟩ v1).setCell ⟨B, 2, none⟩ v2).setCell ⟨B, 3, none⟩ v3) B t #[v0, v1, v2, v3] := by
  have h0 : Bx _ B t #[v0, x1, x2, x3] := h.s 0 v0
  have h1 : Bx _ B t #[v0, v1, x2, x3] := h0.s 1 v1
  have h2 : Bx _ B t #[v0, v1, v2, x3] := h1.s 2 v2
  have h3 : Bx _ B t #[v0, v1, v2, v3] := h2.s 3 v3
  exact h3
theorem gset4 {w u : World} {X : Nat} {v0 v1 v2 v3 : Value} (h : w.grownBy u none) (hX : w.heap.size ≤ X) : w.grownBy ((((u.setCell ⟨X, 0, none⟩ v0).setCell ⟨X, 1, none⟩ v1).setCell ⟨X, 2, none⟩ v2).setCell ⟨X, 3, none⟩ v3) none :=
  gS (gS (gS (gS h hX _ _) hX _ _) hX _ _) hX _ _
theorem set8 {W : World} {B : Nat} {t : TypeId} {x0 x1 x2 x3 x4 x5 x6 x7 : Value} (h : Bx W B t #[x0, x1, x2, x3, x4, x5, x6, x7]) (v0 v1 v2 v3 v4 v5 v6 v7 : Value) : Bx ((((((((W.setCell ⟨B, 0, none⟩ v0).setCell ⟨B, 1, none⟩ v1).setCell ⟨B, 2, none⟩ v2).setCell ⟨B, 3, none⟩ v3).setCell ⟨B, 4, none⟩ v4).setCell ⟨B, 5, none⟩ v5).setCell ⟨B, 6, none⟩ v6).setCell ⟨B, 7, none⟩ v7) B t #[v0, v1, v2, v3, v4, v5, v6, v7] := by
  have h0 : Bx _ B t #[v0, x1, x2, x3, x4, x5, x6, x7] := h.s 0 v0
  have h1 : Bx _ B t #[v0, v1, x2, x3, x4, x5, x6, x7] := h0.s 1 v1
  have h2 : Bx _ B t #[v0, v1, v2, x3, x4, x5, x6, x7] := h1.s 2 v2
  have h3 : Bx _ B t #[v0, v1, v2, v3, x4, x5, x6, x7] := h2.s 3 v3
  have h4 : Bx _ B t #[v0, v1, v2, v3, v4, x5, x6, x7] := h3.s 4 v4
  have h5 : Bx _ B t #[v0, v1, v2, v3, v4, v5, x6, x7] := h4.s 5 v5
  have h6 : Bx _ B t #[v0, v1, v2, v3, v4, v5, v6, x7] := h5.s 6 v6
  have h7 : Bx _ B t #[v0, v1, v2, v3, v4, v5, v6, v7] := h6.s 7 v7
  exact h7
theorem gset8 {w u : World} {X : Nat} {v0 v1 v2 v3 v4 v5 v6 v7 : Value} (h : w.grownBy u none) (hX : w.heap.size ≤ X) : w.grownBy ((((((((u.setCell ⟨X, 0, none⟩ v0).setCell ⟨X, 1, none⟩ v1).setCell ⟨X, 2, none⟩ v2).setCell ⟨X, 3, none⟩ v3).setCell ⟨X, 4, none⟩ v4).setCell ⟨X, 5, none⟩ v5).setCell ⟨X, 6, none⟩ v6).setCell ⟨X, 7, none⟩ v7) none :=
  gS (gS (gS (gS (gS (gS (gS (gS h hX _ _) hX _ _) hX _ _) hX _ _) hX _ _) hX _ _) hX _ _) hX _ _

end Go.Proofs.Ythfhffcimjolgaa
