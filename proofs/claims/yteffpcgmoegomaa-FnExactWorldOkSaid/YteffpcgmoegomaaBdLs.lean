/- The laws' own helpers of boards: their size, a copy of them, whether two are the same, their marks. -/
import Derived.Test.YteffpcgmoegomaaBdS
namespace Go.Proofs.Yteffpcgmoegomaa
open Go.RowKit

abbrev rowV (a : Option Addr) (c : Nat) (l : List Rg) : Value := .slice a l.length c
abbrev OwnRg (w : World) (B : Nat) (a : Option Addr) (c : Nat) (l : List Rg) : Prop := w.ownsRow B 64 2 (.slice a l.length c) l.length (rgsV l)

theorem Mine.keptR {w a b : World} {r : Option Nat} {cs : List (Addr × Value)} (h : Mine w cs a) (hg : a.grownBy b r) (hw : w.grownBy b none) (hr : ∀ g, r = some g → ∀ x ∈ cs, x.1.block ≠ g) : Mine w cs b := by
  refine ⟨hw, fun x hx => ?_⟩
  obtain ⟨h1, h2, h3, h4⟩ := h.all x hx
  have hne : some x.1.block ≠ r := fun e => hr _ e.symm x hx rfl
  refine ⟨hg.cell h1 hne, ?_, h3, h4⟩
  rw [hg.frozen_far x.1 (cell_in h1) hne]
  exact h2
theorem OwnRg.at {w : World} {B : Nat} {a : Option Addr} {c : Nat} {l : List Rg} (h : OwnRg w B a c l) : RgAt w a l := rg_own h

set_option maxRecDepth 100000 in
set_option maxHeartbeats 1000000 in
theorem sz_board (u n : Int) (a : Option Addr) (c : Nat) (l : List Rg) (w : World) (hl : l.length ≤ 9223372036854775807) : Calls Try.prog 18 #[bdV u n a l.length c, .int .i64 1048576] w fun e w' => (∃ r : Int, e = .returned (.int .i64 r) ∧ (0 ≤ r → l.length ≤ 1048576)) ∧ w.grownBy w' none := by
  by_cases h1 : (l.length : Int) ≤ 1048576
  · go_enter Try.func18, Try.ntmps18
    go_wp2_with fail
    refine (sz_ranges _ _ _ _ _ (by omega) rfl).mono ?_
    rintro e w1 ⟨rfl, rfl⟩
    rw [if_pos h1]
    go_wp2_with fail
    go_ret
    exact ⟨⟨_, rfl, fun _ => by omega⟩, World.grownBy_alloc _ _ _⟩
  · go_enter Try.func18, Try.ntmps18
    go_wp2_with fail
    refine (sz_ranges _ _ _ _ _ (by omega) rfl).mono ?_
    rintro e w1 ⟨rfl, rfl⟩
    rw [if_neg (by omega : ¬ (l.length : Int) ≤ 1048576)]
    go_wp2_with fail
    go_ret
    exact ⟨⟨_, rfl, fun h => by omega⟩, World.grownBy_alloc _ _ _⟩

def ToBPost (w : World) (u n : Int) (l : List Rg) (e : Ending) (w' : World) : Prop :=
  ∃ q : Nat, e = .returned (bdV u n (some ⟨q, 0, none⟩) l.length l.length) ∧ w.grownBy w' none ∧ OwnRg w' w.heap.size (some ⟨q, 0, none⟩) l.length l

theorem own_set {w : World} {B q C o c : Nat} {v : Value} {l : List Rg} (h : OwnRg w B (some ⟨q, 0, none⟩) c l) (hne : C ≠ q) : OwnRg (w.setCell ⟨C, o, none⟩ v) B (some ⟨q, 0, none⟩) c l :=
  h.kept (grownBy_set w C o v) (.inr (by simp [Value.ownBlock]; omega))
theorem bd_three (w : World) (x y z z0 : Value) (T U V : TypeId) : Mine w (bdCells w.heap.size x y z ++ bdCells (w.heap.size + 1) (.int .i64 0) (.int .i64 0) z0 ++ bdCells (w.heap.size + 1 + 1) x y z0)
    (((w.alloc (.cells #[x, y, z] T)).alloc (.cells #[.int .i64 0, .int .i64 0, z0] U)).alloc (.cells #[x, y, z0] V)) := by
  have h1 := bd_new w x y z T
  have e1 := alloc_size w (.cells #[x, y, z] T)
  generalize w.alloc (.cells #[x, y, z] T) = w1 at *
  have h2 := bd_new w1 (.int .i64 0) (.int .i64 0) z0 U
  have e2 := alloc_size w1 (.cells #[.int .i64 0, .int .i64 0, z0] U)
  generalize w1.alloc (.cells #[.int .i64 0, .int .i64 0, z0] U) = w2 at *
  have h3 := bd_new w2 x y z0 V
  have h2b := h2.base h1.grown
  have h3b := h3.base (grownBy_trans h1.grown h2.grown)
  rw [e1] at h2b
  rw [e2, e1] at h3b
  have k3 := h3.grown
  have j1 := (h1.kept h2.grown).kept k3
  have j2 := h2b.kept k3
  refine ⟨j1.grown, fun x hx => ?_⟩
  rcases List.mem_append.mp hx with hx | hx
  · rcases List.mem_append.mp hx with hx | hx
    · exact j1.all x hx
    · exact j2.all x hx
  · exact h3b.all x hx
theorem res3_grown {w a : World} {R : Nat} (x y z : Value) (h : w.grownBy a none) (hR : w.heap.size ≤ R) : w.grownBy (((a.setCell ⟨R, 0, none⟩ x).setCell ⟨R, 1, none⟩ y).setCell ⟨R, 2, none⟩ z) none :=
  grownBy_new h (grownBy_trans (grownBy_trans (grownBy_set _ _ _ _) (grownBy_set _ _ _ _)) (grownBy_set _ _ _ _)) hR

set_option maxRecDepth 100000 in
set_option maxHeartbeats 1000000 in
theorem to_board (u n : Int) (a : Option Addr) (c : Nat) (l : List Rg) (w : World) (h : RgAt w a l) (hl : l.length ≤ 1048576) : Calls Try.prog 31 #[bdV u n a l.length c] w (ToBPost w u n l) := by
  have h3 := bd_three w (.int .i64 u) (.int .i64 n) (.slice a l.length c) (.slice none 0 0) 26 36 36
  have H := Lib.hid (And.intro h3 (h.kept h3.grown))
  have hz : (((w.alloc (.cells #[.int .i64 u, .int .i64 n, .slice a l.length c] 26)).alloc (.cells #[.int .i64 0, .int .i64 0, .slice none 0 0] 36)).alloc (.cells #[.int .i64 u, .int .i64 n, .slice none 0 0] 36)).heap.size = w.heap.size + 1 + 1 + 1 := by rw [alloc_size, alloc_size, alloc_size]
  have HZ := Lib.hid hz
  clear h h3 hz
  go_enter Try.func31, Try.ntmps31
  go_wp2_with fail
  refine (to_ranges _ _ _ _ H.out.2 hl).mono ?_
  rintro e w4 ⟨rfl, hg, hr⟩
  have h4 := H.out.1.kept hg
  rw [HZ.out] at hr ⊢
  obtain ⟨a0, a1, a2⟩ := bd_facts h4.left.left
  obtain ⟨r0, r1, r2⟩ := bd_facts h4.left.right
  obtain ⟨z0, z1, z2⟩ := bd_frees h4.left.right
  obtain ⟨o0, o1, o2⟩ := bd_facts h4.right
  obtain ⟨y0, y1, y2⟩ := bd_frees h4.right
  have HG := Lib.hid (And.intro h4.grown (own_base hr (by omega : w.heap.size ≤ w.heap.size + 1 + 1 + 1)))
  clear hg hr h4
  go_wp2_with fail
  have hgr := res3_grown (R := w.heap.size + 1) (.int .i64 u) (.int .i64 n) (.slice (some ⟨w.heap.size + 1 + 1 + 1, 0, none⟩) l.length l.length) (grownBy_new HG.out.1 (grownBy_set _ (w.heap.size + 1 + 1) 2 (.slice (some ⟨w.heap.size + 1 + 1 + 1, 0, none⟩) l.length l.length)) (by omega)) (by omega)
  refine bodyPost_ret (v := bdV u n (some ⟨w.heap.size + 1 + 1 + 1, 0, none⟩) l.length l.length) ?_ rfl ⟨_, rfl, hgr, ?_⟩
  · simp [results, Try.results31, go_sem, r0, r1, r2]
  · exact own_set (own_set (own_set (own_set HG.out.2 (by omega)) (by omega)) (by omega)) (by omega)

set_option maxRecDepth 100000 in
set_option maxHeartbeats 1000000 in
theorem eq_board (u n : Int) (a d : Option Addr) (c e : Nat) (l : List Rg) (w : World) (h : RgAt w a l) (h' : RgAt w d l) (hl : l.length ≤ 1048576) : Calls Try.prog 43 #[bdV u n a l.length c, bdV u n d l.length e] w fun e w' => e = .returned (.bool true) ∧ w.grownBy w' none := by
  have hA := grownBy_trans (World.grownBy_alloc w (.cells #[.int .i64 u, .int .i64 n, .slice a l.length c] 36) none) (World.grownBy_alloc _ (.cells #[.int .i64 u, .int .i64 n, .slice d l.length e] 36) none)
  have H := Lib.hid (And.intro (h.kept hA) (And.intro (h'.kept hA) hA))
  clear h h' hA
  go_enter Try.func43, Try.ntmps43
  go_wp2_with fail
  refine (eq_ranges _ _ _ _ _ _ H.out.1 H.out.2.1 hl).mono ?_
  rintro e w4 ⟨rfl, hg⟩
  have HG := Lib.hid (grownBy_trans H.out.2.2 hg)
  clear hg
  go_wp2_with fail
  go_ret
  exact ⟨rfl, HG.out⟩

end Go.Proofs.Yteffpcgmoegomaa
