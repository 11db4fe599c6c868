/- Bx -/
import Derived.Test.YtedhemllgpbheaaQ1
import Derived.Lib.Hide
import Derived.RangeFuncBox
namespace Go.Proofs.Ytedhemllgpbheaa
open Go.RowKit

theorem gA {w W : World} (h : w.grownBy W none) (o : Obj) : w.grownBy (W.alloc o) none := grownBy_trans h (World.grownBy_alloc _ _ _)
theorem gD {w W : World} (h : w.grownBy W none) (k : Nat) : w.grownBy (W.drewN k) none := grownBy_trans h (grownBy_drewN k)
theorem grownBy_drew {a : World} {r : Option Nat} : a.grownBy a.drew r := ⟨rfl, rfl, rfl, Nat.le_refl _, fun _ _ _ => rfl⟩
theorem gd {w W : World} (h : w.grownBy W none) : w.grownBy W.drew none := grownBy_trans h ⟨rfl, rfl, rfl, Nat.le_refl _, fun _ _ _ => rfl⟩
theorem gS {w W : World} (h : w.grownBy W none) {b : Nat} (hb : w.heap.size ≤ b) (i : Nat) (v : Value) : w.grownBy (W.setCell ⟨b, i, none⟩ v) none :=
  ⟨h.os, h.tape, h.output, by simp [World.setCell]; exact h.size, fun k hk hne => (Below.heap_setCell _ _ _ k (by simp; omega)).trans (h.block k hk hne)⟩
theorem gE {w W : World} {r : Nat} (h : w.grownBy W none) : w.grownBy W (some r) := ⟨h.os, h.tape, h.output, h.size, fun k hk _ => h.block k hk (by simp)⟩
theorem gSr {w W : World} {r : Nat} (h : w.grownBy W (some r)) {b : Nat} (hb : w.heap.size ≤ b) (i : Nat) (v : Value) : w.grownBy (W.setCell ⟨b, i, none⟩ v) (some r) :=
  ⟨h.os, h.tape, h.output, by simp [World.setCell]; exact h.size, fun k hk hne => (Below.heap_setCell _ _ _ k (by simp; omega)).trans (h.block k hk hne)⟩
theorem grown_frz {a b : World} {row : Option Nat} (hg : a.grownBy b row) {p : Addr} {v : Value} (h : a.cell? p = some v) (hne : some p.block ≠ row) {x : Bool} (hf : a.frozen? p = x) : b.frozen? p = x := by
  rw [World.frozen?_of_block (hg.block p.block (World.block_lt_of_cell? a p h) hne)]
  exact hf

/-- A block that holds just these cells, in no use as a row. -/
def Bx (W : World) (B : Nat) (t : TypeId) (xs : Array Value) : Prop := W.heap[B]? = some (.cells xs t (0, 0))
theorem Bx.lt {W : World} {B : Nat} {t : TypeId} {xs : Array Value} (h : Bx W B t xs) : B < W.heap.size := (Array.getElem?_eq_some_iff.1 h).1
theorem Bx.c {W : World} {B : Nat} {t : TypeId} {xs : Array Value} (h : Bx W B t xs) (i : Nat) {x : Value} (hx : xs[i]? = some x) : W.cell? ⟨B, i, none⟩ = some x := by simp [World.cell?, show W.heap[B]? = _ from h, hx]
theorem Bx.f {W : World} {B : Nat} {t : TypeId} {xs : Array Value} (h : Bx W B t xs) (i : Nat) : W.frozen? ⟨B, i, none⟩ = false := by simp [World.frozen?, show W.heap[B]? = _ from h]
theorem Bx.new (W : World) (t : TypeId) (xs : Array Value) : Bx (W.alloc (.cells xs t)) W.heap.size t xs := World.alloc_heap_new W _
theorem Bx.kept {W W' : World} {row : Option Nat} {B : Nat} {t : TypeId} {xs : Array Value} (h : Bx W B t xs) (hg : W.grownBy W' row) (hne : some B ≠ row) : Bx W' B t xs := (hg.block B h.lt hne).trans h
theorem Bx.keep {W W' : World} {B : Nat} {t : TypeId} {xs : Array Value} (h : Bx W B t xs) (hg : W.grownBy W' none) : Bx W' B t xs := h.kept hg (by simp)
theorem Bx.alloc {W : World} {B : Nat} {t : TypeId} {xs : Array Value} (h : Bx W B t xs) (o : Obj) : Bx (W.alloc o) B t xs := h.keep (World.grownBy_alloc W o none)
theorem Bx.drew {W : World} {B : Nat} {t : TypeId} {xs : Array Value} (h : Bx W B t xs) (k : Nat) : Bx (W.drewN k) B t xs := h.keep (grownBy_drewN k)
theorem Bx.s {W : World} {B : Nat} {t : TypeId} {xs : Array Value} (h : Bx W B t xs) (i : Nat) (y : Value) : Bx (W.setCell ⟨B, i, none⟩ y) B t (xs.setIfInBounds i y) := by
  obtain ⟨hlt, hk⟩ := Array.getElem?_eq_some_iff.1 h
  show (W.heap.modify B _)[B]? = _
  rw [Array.getElem?_eq_getElem (by rw [Array.size_modify]; exact hlt), Array.getElem_modify_self, hk]
  rfl
theorem Bx.other {W : World} {B : Nat} {t : TypeId} {xs : Array Value} (h : Bx W B t xs) {B' : Nat} (hne : B ≠ B') (i : Nat) (u : Value) : Bx (W.setCell ⟨B', i, none⟩ u) B t xs := (Below.heap_setCell _ _ _ B hne).trans h

end Go.Proofs.Ytedhemllgpbheaa

