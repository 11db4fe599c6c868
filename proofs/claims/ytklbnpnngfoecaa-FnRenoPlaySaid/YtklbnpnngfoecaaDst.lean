/- Where a drawing stands: its reader r, its result's block A, its own block E. -/
import Derived.Test.YtklbnpnngfoecaaBx
namespace Go.Proofs.Ytklbnpnngfoecaa
open Go.RowKit

theorem rd_set {W : World} {r : Nat} (h : RdOk W r) {b : Nat} (hb : r < b) (i : Nat) (v : Value) : RdOk (W.setCell ⟨b, i, none⟩ v) r := h.kept (grownBy_set W b i v) (by simp; omega) (fun k e => by cases e; exact hb)
structure Dst (w : World) (r A : Nat) (ta : TypeId) (za : Array Value) (E : Nat) (te : TypeId) (xs : Array Value) (W : World) : Prop where
  lr : r < w.heap.size
  la : w.heap.size ≤ A
  le : A < E
  g : w.grownBy W (some r)
  rd : RdOk W r
  a : Bx W A ta za
  b : Bx W E te xs
theorem Dst.step {w : World} {r A : Nat} {ta : TypeId} {za : Array Value} {E : Nat} {te : TypeId} {xs : Array Value} {W W2 : World} (k : Dst w r A ta za E te xs W) (hg : W.grownBy W2 (some r)) (hr : RdOk W2 r) : Dst w r A ta za E te xs W2 :=
  ⟨k.lr, k.la, k.le, grownBy_trans k.g hg, hr, k.a.kept hg (by have := k.lr; have := k.la; simp; omega), k.b.kept hg (by have := k.lr; have := k.la; have := k.le; simp; omega)⟩
theorem Dst.own {w : World} {r A : Nat} {ta : TypeId} {za : Array Value} {E : Nat} {te : TypeId} {xs : Array Value} {W W2 : World} (k : Dst w r A ta za E te xs W) (hg : W.grownBy W2 none) : Dst w r A ta za E te xs W2 :=
  ⟨k.lr, k.la, k.le, grownBy_trans k.g (gE hg), k.rd.kept hg (by simp) (by simp), k.a.keep hg, k.b.keep hg⟩
theorem Dst.s {w : World} {r A : Nat} {ta : TypeId} {za : Array Value} {E : Nat} {te : TypeId} {xs : Array Value} {W : World} (k : Dst w r A ta za E te xs W) (i : Nat) (v : Value) : Dst w r A ta za E te (xs.setIfInBounds i v) (W.setCell ⟨E, i, none⟩ v) := by
  have l1 := k.lr
  have l2 := k.la
  have l3 := k.le
  exact ⟨l1, l2, l3, gSr k.g (by omega) _ _, rd_set k.rd (by omega) _ _, k.a.other (by omega) _ _, k.b.s _ _⟩
/-- A store into the result's block. -/
theorem fin_set {w W : World} {r A : Nat} (lr : r < w.heap.size) (la : w.heap.size ≤ A) (h : w.grownBy W (some r) ∧ RdOk W r) (i : Nat) (v : Value) : w.grownBy (W.setCell ⟨A, i, none⟩ v) (some r) ∧ RdOk (W.setCell ⟨A, i, none⟩ v) r :=
  ⟨gSr h.1 la _ _, rd_set h.2 (by omega) _ _⟩
theorem Dst.fin5 {w : World} {r A : Nat} {ta : TypeId} {za : Array Value} {E : Nat} {te : TypeId} {xs : Array Value} {W : World} (k : Dst w r A ta za E te xs W) (v0 v1 v2 v3 v4 : Value) :
    w.grownBy (((((W.setCell ⟨A, 0, none⟩ v0).setCell ⟨A, 1, none⟩ v1).setCell ⟨A, 2, none⟩ v2).setCell ⟨A, 3, none⟩ v3).setCell ⟨A, 4, none⟩ v4) (some r) ∧ RdOk (((((W.setCell ⟨A, 0, none⟩ v0).setCell ⟨A, 1, none⟩ v1).setCell ⟨A, 2, none⟩ v2).setCell ⟨A, 3, none⟩ v3).setCell ⟨A, 4, none⟩ v4) r :=
  fin_set k.lr k.la (fin_set k.lr k.la (fin_set k.lr k.la (fin_set k.lr k.la (fin_set k.lr k.la ⟨k.g, k.rd⟩ _ _) _ _) _ _) _ _) _ _
theorem Dst.fin7 {w : World} {r A : Nat} {ta : TypeId} {za : Array Value} {E : Nat} {te : TypeId} {xs : Array Value} {W : World} (k : Dst w r A ta za E te xs W) (v0 v1 v2 v3 v4 v5 v6 : Value) :
    w.grownBy (((((((W.setCell ⟨A, 0, none⟩ v0).setCell ⟨A, 1, none⟩ v1).setCell ⟨A, 2, none⟩ v2).setCell ⟨A, 3, none⟩ v3).setCell ⟨A, 4, none⟩ v4).setCell ⟨A, 5, none⟩ v5).setCell ⟨A, 6, none⟩ v6) (some r) ∧ RdOk (((((((W.setCell ⟨A, 0, none⟩ v0).setCell ⟨A, 1, none⟩ v1).setCell ⟨A, 2, none⟩ v2).setCell ⟨A, 3, none⟩ v3).setCell ⟨A, 4, none⟩ v4).setCell ⟨A, 5, none⟩ v5).setCell ⟨A, 6, none⟩ v6) r :=
  fin_set k.lr k.la (fin_set k.lr k.la (k.fin5 _ _ _ _ _) _ _) _ _

end Go.Proofs.Ytklbnpnngfoecaa
