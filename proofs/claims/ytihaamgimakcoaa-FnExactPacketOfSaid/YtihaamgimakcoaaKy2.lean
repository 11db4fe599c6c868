/- The two boxes of the law FnExactKeyOf, and the sizes that it begins with. -/
import Derived.Test.YtihaamgimakcoaaKy
namespace Go.Proofs.Ytihaamgimakcoaa
open Go.RowKit

theorem bx_kept {w u v : World} {s d t p i : Int} {bb : List UInt8} {f o q k g n : Int} {a : Option Addr} {c : Nat} {l : List Rg} {b : List UInt8} (h : u.cell? ⟨w.heap.size, 0, none⟩ = some (.int .i64 s) ∧ u.cell? ⟨w.heap.size, 1, none⟩ = some (.int .i64 d) ∧ u.cell? ⟨w.heap.size, 2, none⟩ = some (.int .i64 t) ∧ u.cell? ⟨w.heap.size, 3, none⟩ = some (.int .i64 p) ∧ u.cell? ⟨w.heap.size, 4, none⟩ = some (.int .i64 i) ∧ u.cell? ⟨w.heap.size, 5, none⟩ = some (.string ⟨bb.toArray⟩) ∧ u.cell? ⟨w.heap.size + 1, 0, none⟩ = some (.int .i64 f) ∧ u.cell? ⟨w.heap.size + 1, 1, none⟩ = some (.int .i64 o) ∧ u.cell? ⟨w.heap.size + 1, 2, none⟩ = some (.int .i64 q) ∧ u.cell? ⟨w.heap.size + 1, 3, none⟩ = some (.int .i64 k) ∧ u.cell? ⟨w.heap.size + 1, 4, none⟩ = some (.int .i64 g) ∧ u.cell? ⟨w.heap.size + 1, 5, none⟩ = some (.int .i64 n) ∧ u.cell? ⟨w.heap.size + 1, 6, none⟩ = some (.slice a l.length c) ∧ u.cell? ⟨w.heap.size + 1, 7, none⟩ = some (.string ⟨b.toArray⟩) ∧ w.grownBy u none) (hg : u.grownBy v none) : v.cell? ⟨w.heap.size, 0, none⟩ = some (.int .i64 s) ∧ v.cell? ⟨w.heap.size, 1, none⟩ = some (.int .i64 d) ∧ v.cell? ⟨w.heap.size, 2, none⟩ = some (.int .i64 t) ∧ v.cell? ⟨w.heap.size, 3, none⟩ = some (.int .i64 p) ∧ v.cell? ⟨w.heap.size, 4, none⟩ = some (.int .i64 i) ∧ v.cell? ⟨w.heap.size, 5, none⟩ = some (.string ⟨bb.toArray⟩) ∧ v.cell? ⟨w.heap.size + 1, 0, none⟩ = some (.int .i64 f) ∧ v.cell? ⟨w.heap.size + 1, 1, none⟩ = some (.int .i64 o) ∧ v.cell? ⟨w.heap.size + 1, 2, none⟩ = some (.int .i64 q) ∧ v.cell? ⟨w.heap.size + 1, 3, none⟩ = some (.int .i64 k) ∧ v.cell? ⟨w.heap.size + 1, 4, none⟩ = some (.int .i64 g) ∧ v.cell? ⟨w.heap.size + 1, 5, none⟩ = some (.int .i64 n) ∧ v.cell? ⟨w.heap.size + 1, 6, none⟩ = some (.slice a l.length c) ∧ v.cell? ⟨w.heap.size + 1, 7, none⟩ = some (.string ⟨b.toArray⟩) ∧ w.grownBy v none := by
  obtain ⟨h0, h1, h2, h3, h4, h5, h6, h7, h8, h9, h10, h11, h12, h13, hh⟩ := h
  exact ⟨hg.cell h0 (by simp), hg.cell h1 (by simp), hg.cell h2 (by simp), hg.cell h3 (by simp), hg.cell h4 (by simp), hg.cell h5 (by simp), hg.cell h6 (by simp), hg.cell h7 (by simp), hg.cell h8 (by simp), hg.cell h9 (by simp), hg.cell h10 (by simp), hg.cell h11 (by simp), hg.cell h12 (by simp), hg.cell h13 (by simp), grownBy_trans hh hg⟩
theorem bx_lt {w u : World} {s d t p i : Int} {bb : List UInt8} {f o q k g n : Int} {a : Option Addr} {c : Nat} {l : List Rg} {b : List UInt8} (h : u.cell? ⟨w.heap.size, 0, none⟩ = some (.int .i64 s) ∧ u.cell? ⟨w.heap.size, 1, none⟩ = some (.int .i64 d) ∧ u.cell? ⟨w.heap.size, 2, none⟩ = some (.int .i64 t) ∧ u.cell? ⟨w.heap.size, 3, none⟩ = some (.int .i64 p) ∧ u.cell? ⟨w.heap.size, 4, none⟩ = some (.int .i64 i) ∧ u.cell? ⟨w.heap.size, 5, none⟩ = some (.string ⟨bb.toArray⟩) ∧ u.cell? ⟨w.heap.size + 1, 0, none⟩ = some (.int .i64 f) ∧ u.cell? ⟨w.heap.size + 1, 1, none⟩ = some (.int .i64 o) ∧ u.cell? ⟨w.heap.size + 1, 2, none⟩ = some (.int .i64 q) ∧ u.cell? ⟨w.heap.size + 1, 3, none⟩ = some (.int .i64 k) ∧ u.cell? ⟨w.heap.size + 1, 4, none⟩ = some (.int .i64 g) ∧ u.cell? ⟨w.heap.size + 1, 5, none⟩ = some (.int .i64 n) ∧ u.cell? ⟨w.heap.size + 1, 6, none⟩ = some (.slice a l.length c) ∧ u.cell? ⟨w.heap.size + 1, 7, none⟩ = some (.string ⟨b.toArray⟩) ∧ w.grownBy u none) : w.heap.size + 1 + 1 ≤ u.heap.size := World.block_lt_of_cell? u _ h.2.2.2.2.2.2.1
theorem bx_sets {w u : World} {X : Nat} {x y z v : Value} {s d t p i : Int} {bb : List UInt8} {f o q k g n : Int} {a : Option Addr} {c : Nat} {l : List Rg} {b : List UInt8} (h : u.cell? ⟨w.heap.size, 0, none⟩ = some (.int .i64 s) ∧ u.cell? ⟨w.heap.size, 1, none⟩ = some (.int .i64 d) ∧ u.cell? ⟨w.heap.size, 2, none⟩ = some (.int .i64 t) ∧ u.cell? ⟨w.heap.size, 3, none⟩ = some (.int .i64 p) ∧ u.cell? ⟨w.heap.size, 4, none⟩ = some (.int .i64 i) ∧ u.cell? ⟨w.heap.size, 5, none⟩ = some (.string ⟨bb.toArray⟩) ∧ u.cell? ⟨w.heap.size + 1, 0, none⟩ = some (.int .i64 f) ∧ u.cell? ⟨w.heap.size + 1, 1, none⟩ = some (.int .i64 o) ∧ u.cell? ⟨w.heap.size + 1, 2, none⟩ = some (.int .i64 q) ∧ u.cell? ⟨w.heap.size + 1, 3, none⟩ = some (.int .i64 k) ∧ u.cell? ⟨w.heap.size + 1, 4, none⟩ = some (.int .i64 g) ∧ u.cell? ⟨w.heap.size + 1, 5, none⟩ = some (.int .i64 n) ∧ u.cell? ⟨w.heap.size + 1, 6, none⟩ = some (.slice a l.length c) ∧ u.cell? ⟨w.heap.size + 1, 7, none⟩ = some (.string ⟨b.toArray⟩) ∧ w.grownBy u none) (hX : w.heap.size + 1 + 1 ≤ X) : ((((u.setCell ⟨X, 0, none⟩ x).setCell ⟨X, 1, none⟩ y).setCell ⟨X, 2, none⟩ z).setCell ⟨X, 3, none⟩ v).cell? ⟨w.heap.size, 0, none⟩ = some (.int .i64 s) ∧ ((((u.setCell ⟨X, 0, none⟩ x).setCell ⟨X, 1, none⟩ y).setCell ⟨X, 2, none⟩ z).setCell ⟨X, 3, none⟩ v).cell? ⟨w.heap.size, 1, none⟩ = some (.int .i64 d) ∧ ((((u.setCell ⟨X, 0, none⟩ x).setCell ⟨X, 1, none⟩ y).setCell ⟨X, 2, none⟩ z).setCell ⟨X, 3, none⟩ v).cell? ⟨w.heap.size, 2, none⟩ = some (.int .i64 t) ∧ ((((u.setCell ⟨X, 0, none⟩ x).setCell ⟨X, 1, none⟩ y).setCell ⟨X, 2, none⟩ z).setCell ⟨X, 3, none⟩ v).cell? ⟨w.heap.size, 3, none⟩ = some (.int .i64 p) ∧ ((((u.setCell ⟨X, 0, none⟩ x).setCell ⟨X, 1, none⟩ y).setCell ⟨X, 2, none⟩ z).setCell ⟨X, 3, none⟩ v).cell? ⟨w.heap.size, 4, none⟩ = some (.int .i64 i) ∧ ((((u.setCell ⟨X, 0, none⟩ x).setCell ⟨X, 1, none⟩ y).setCell ⟨X, 2, none⟩ z).setCell ⟨X, 3, none⟩ v).cell? ⟨w.heap.size, 5, none⟩ = some (.string ⟨bb.toArray⟩) ∧ ((((u.setCell ⟨X, 0, none⟩ x).setCell ⟨X, 1, none⟩ y).setCell ⟨X, 2, none⟩ z).setCell ⟨X, 3, none⟩ v).cell? ⟨w.heap.size + 1, 0, none⟩ = some (.int .i64 f) ∧ ((((u.setCell ⟨X, 0, none⟩ x).setCell ⟨X, 1, none⟩ y).setCell ⟨X, 2, none⟩ z).setCell ⟨X, 3, none⟩ v).cell? ⟨w.heap.size + 1, 1, none⟩ = some (.int .i64 o) ∧ ((((u.setCell ⟨X, 0, none⟩ x).setCell ⟨X, 1, none⟩ y).setCell ⟨X, 2, none⟩ z).setCell ⟨X, 3, none⟩ v).cell? ⟨w.heap.size + 1, 2, none⟩ = some (.int .i64 q) ∧ ((((u.setCell ⟨X, 0, none⟩ x).setCell ⟨X, 1, none⟩ y).setCell ⟨X, 2, none⟩ z).setCell ⟨X, 3, none⟩ v).cell? ⟨w.heap.size + 1, 3, none⟩ = some (.int .i64 k) ∧ ((((u.setCell ⟨X, 0, none⟩ x).setCell ⟨X, 1, none⟩ y).setCell ⟨X, 2, none⟩ z).setCell ⟨X, 3, none⟩ v).cell? ⟨w.heap.size + 1, 4, none⟩ = some (.int .i64 g) ∧ ((((u.setCell ⟨X, 0, none⟩ x).setCell ⟨X, 1, none⟩ y).setCell ⟨X, 2, none⟩ z).setCell ⟨X, 3, none⟩ v).cell? ⟨w.heap.size + 1, 5, none⟩ = some (.int .i64 n) ∧ ((((u.setCell ⟨X, 0, none⟩ x).setCell ⟨X, 1, none⟩ y).setCell ⟨X, 2, none⟩ z).setCell ⟨X, 3, none⟩ v).cell? ⟨w.heap.size + 1, 6, none⟩ = some (.slice a l.length c) ∧ ((((u.setCell ⟨X, 0, none⟩ x).setCell ⟨X, 1, none⟩ y).setCell ⟨X, 2, none⟩ z).setCell ⟨X, 3, none⟩ v).cell? ⟨w.heap.size + 1, 7, none⟩ = some (.string ⟨b.toArray⟩) ∧ w.grownBy ((((u.setCell ⟨X, 0, none⟩ x).setCell ⟨X, 1, none⟩ y).setCell ⟨X, 2, none⟩ z).setCell ⟨X, 3, none⟩ v) none := by
  have hg := four_sets (w := u) (E := X) x y z v
  obtain ⟨h0, h1, h2, h3, h4, h5, h6, h7, h8, h9, h10, h11, h12, h13, hh⟩ := h
  exact ⟨hg.cell h0 (by simp; omega), hg.cell h1 (by simp; omega), hg.cell h2 (by simp; omega), hg.cell h3 (by simp; omega), hg.cell h4 (by simp; omega), hg.cell h5 (by simp; omega), hg.cell h6 (by simp; omega), hg.cell h7 (by simp; omega), hg.cell h8 (by simp; omega), hg.cell h9 (by simp; omega), hg.cell h10 (by simp; omega), hg.cell h11 (by simp; omega), hg.cell h12 (by simp; omega), hg.cell h13 (by simp; omega), grownBy_new hh hg (by omega)⟩
theorem four_done {w : World} {E : Nat} {x y z u x' y' z' u' : Value} (h : Four w E x y z u) : Four ((((w.setCell ⟨E, 0, none⟩ x').setCell ⟨E, 1, none⟩ y').setCell ⟨E, 2, none⟩ z').setCell ⟨E, 3, none⟩ u') E x' y' z' u' := by
  obtain ⟨a, b, c, d, f, g, h, i⟩ := h
  exact ⟨by simp [go_sem, a], by simp [go_sem, b], by simp [go_sem, c], by simp [go_sem, d], by simp [f], by simp [g], by simp [h], by simp [i]⟩

theorem sz_rangesK (a : Option Addr) (c : Nat) (l : List Rg) (k : Int) (w : World) (hl : (l.length : Int) ≤ 9223372036854775807) (h0 : 0 ≤ k) (h1 : k ≤ 1048576) : Calls Try.prog 23 #[.slice a l.length c, .int .i64 k] w fun e w' => e = .returned (.int .i64 (if (l.length : Int) ≤ k then k - (l.length : Int) else -1)) ∧ w' = w := by
  by_cases h : (l.length : Int) ≤ k
  · rw [if_pos h]
    go_enter Try.func23, Try.ntmps23
    go_wp2
    go_ret
    exact ⟨rfl, rfl⟩
  · rw [if_neg h]
    go_enter Try.func23, Try.ntmps23
    go_wp2
    go_ret
    exact ⟨rfl, rfl⟩

theorem sz_tcpK (f o s k g n : Int) (a : Option Addr) (c : Nat) (l : List Rg) (b : List UInt8) (q : Int) (w : World) (hl : l.length ≤ 9223372036854775807) (hb : b.length ≤ 9223372036854775807) (h0 : 0 ≤ q) (hq : q ≤ 1048576) : Calls Try.prog 7 #[tcpV f o s k g n a c l b, .int .i64 q] w fun e w' => (∃ r : Int, e = .returned (.int .i64 r) ∧ (0 ≤ r → l.length ≤ 1048576)) ∧ w.grownBy w' none := by
  by_cases h1 : (l.length : Int) ≤ q
  · by_cases h2 : (l.length : Int) + b.length ≤ q
    all_goals
      go_enter Try.func7, Try.ntmps7
      go_wp2_with fail
      refine (sz_rangesK _ _ _ _ _ (by omega) h0 hq).mono ?_
      rintro e w1 ⟨rfl, rfl⟩
      rw [if_pos h1]
      go_wp2_with fail
      go_ret
      exact ⟨⟨_, rfl, fun _ => by omega⟩, World.grownBy_alloc _ _ _⟩
  · go_enter Try.func7, Try.ntmps7
    go_wp2_with fail
    refine (sz_rangesK _ _ _ _ _ (by omega) h0 hq).mono ?_
    rintro e w1 ⟨rfl, rfl⟩
    rw [if_neg (by omega : ¬ (l.length : Int) ≤ q)]
    go_wp2_with fail
    go_ret
    exact ⟨⟨_, rfl, fun h => by omega⟩, World.grownBy_alloc _ _ _⟩

end Go.Proofs.Ytihaamgimakcoaa
