/- The drawings of numbers out of a code of bytes: each answers some numbers of its kind, and writes nothing that was there. -/
import Derived.Test.YthfhffcimjolgaaRd
import Derived.WalkLawsBesides
namespace Go.Proofs.Ythfhffcimjolgaa
open Go.RowKit

/-- A code of n bytes. -/
def CodeIn (w : World) (a : Option Addr) (n : Nat) : Prop :=
  n ≤ maxLen ∧ (n = 0 ∨ ∃ b off, a = some ⟨b, off, none⟩ ∧ b < w.heap.size ∧ ∀ i, i < n → ∃ v : Int, 0 ≤ v ∧ v ≤ 255 ∧ w.cell? ⟨b, off + i, none⟩ = some (.int .u8 v))

theorem code_of {w : World} {a : Option Addr} {n c : Nat} {zs : List Int}
    (h : (a = none ∧ n = 0 ∧ c = 0 ∧ zs = []) ∨ ∃ x, a = some x ∧ n ≤ c ∧ c ≤ maxLen ∧ zs.length = c ∧ (∀ i, i < zs.length → w.cell? (x.add i) = some (.int .u8 (zs.getD i 0))) ∧ ∀ n ∈ zs, (Lit.int .u8 n).wf = true) : CodeIn w a n := by
  rcases h with ⟨_, rfl, _, _⟩ | ⟨⟨b, off, spot⟩, rfl, hl, hm, hz, hc, hw⟩
  · exact ⟨Nat.zero_le _, .inl rfl⟩
  · refine ⟨Nat.le_trans hl hm, ?_⟩
    by_cases h0 : n = 0
    · exact .inl h0
    · have c0 := hc 0 (by omega)
      have hs : spot = none := by simpa [Addr.add] using World.cell?_spot c0
      subst hs
      refine .inr ⟨b, off, rfl, World.block_lt_of_cell? w _ c0, fun i hi => ?_⟩
      have ci := hc i (by omega)
      have hmem : zs.getD i 0 ∈ zs := by rw [List.getD_eq_getElem?_getD, List.getElem?_eq_getElem (by omega)]; exact List.getElem_mem _
      have hb := bounds_u8 (hw _ hmem)
      refine ⟨zs.getD i 0, hb.1, hb.2, ?_⟩
      rw [← ci]
      by_cases e : i = 0
      · subst e; rfl
      · simp [Addr.add, e]

theorem below_new {w w' : World} (h : w.grownBy w' none) : Below w.heap.size w w' := (Below.refl _ _).grown h (Nat.le_refl _) (by simp)

set_option maxRecDepth 100000 in
theorem big_any (a : Option Addr) (n c : Nat) (w : World) : Calls Try.prog 4 #[.slice a n c] w fun e w' => e = .returned (.bool (decide (1048576 < n))) ∧ w = w' := by
  by_cases h : 1048576 < n
  all_goals
    go_enter Try.func4, Try.ntmps4
    go_wp2
    go_ret
    exact ⟨ret_b (by simp; omega), rfl⟩

theorem CodeIn.kept {w w' : World} {a : Option Addr} {n : Nat} (h : CodeIn w a n) (hg : w.grownBy w' none) : CodeIn w' a n := by
  obtain ⟨hn, h | ⟨b, off, ha, hlt, hc⟩⟩ := h
  · exact ⟨hn, .inl h⟩
  · exact ⟨hn, .inr ⟨b, off, ha, Nat.lt_of_lt_of_le hlt hg.size, fun i hi => let ⟨v, h0, h1, h2⟩ := hc i hi; ⟨v, h0, h1, hg.cell h2 (by simp)⟩⟩⟩

theorem CodeIn.at {w w' : World} {a : Option Addr} {n : Nat} (h : CodeIn w a n) (hg : w.grownBy w' none) {r : Nat} (hr : w.heap.size ≤ r) : CodeAt w' a n r := by
  obtain ⟨hn, h | ⟨b, off, ha, hlt, hc⟩⟩ := h
  · exact .inl h
  · exact .inr ⟨b, off, ha, by omega, Nat.lt_of_lt_of_le hlt hg.size, fun i hi => let ⟨v, h0, h1, h2⟩ := hc i hi; ⟨v, h0, h1, hg.cell h2 (by simp)⟩⟩

theorem grownBy_new {a b c : World} {r : Nat} (h : a.grownBy b none) (k : b.grownBy c (some r)) (hr : a.heap.size ≤ r) : a.grownBy c none :=
  ⟨k.os.trans h.os, k.tape.trans h.tape, k.output.trans h.output, Nat.le_trans h.size k.size, fun i hi _ => (k.block i (Nat.lt_of_lt_of_le hi h.size) (by simp; omega)).trans (h.block i hi (by simp))⟩

def OpenPost (w : World) (e : Ending) (w' : World) : Prop :=
  e = .returned (.pointer (some ⟨w.heap.size, 0, none⟩)) ∧ w.grownBy w' none ∧ RdOk w' w.heap.size

set_option maxRecDepth 100000 in
theorem open_any (a : Option Addr) (n c : Nat) (w : World) (h : CodeIn w a n) : Calls Try.prog 15 #[.slice a n c] w (OpenPost w) := by
  have H := Lib.hid h
  clear h
  go_enter Try.func15, Try.ntmps15
  go_wp2_with fail
  go_ret
  refine ⟨rfl, World.grownBy_alloc _ _ _, a, n, c, 0, by go_simp, by go_simp, by go_simp, by omega, H.out.1, by simp, H.out.at (World.grownBy_alloc _ _ _) (Nat.le_refl _)⟩

theorem seqAdd_wf (a n : Int) : (Lit.int .i64 (seqAdd a n)).wf = true := by
  unfold seqAdd
  split
  · exact wf_small (by omega) (by omega)
  · exact wf_small (by omega) (by omega)

def Draw2Post (w : World) (e : Ending) (w' : World) : Prop :=
  ∃ u v : Int, (Lit.int .i64 u).wf = true ∧ (Lit.int .i64 v).wf = true ∧ e = .returned (.tuple #[.int .i64 u, .int .i64 v]) ∧ w.grownBy w' none

/-- What comes back: what is added is the difference. -/
theorem add_diff (a n : Int) (h : 0 ≤ seqAdd a n) (h1 : -1000000 < n) (h2 : n < 1000000) : seqDiff (seqAdd a n) a = n ∧ seqAdd (seqAdd a n) (-n) = a := by
  unfold seqAdd at h
  split at h
  · rename_i g
    have e : seqAdd a n = (a + n + 4294967296) % 4294967296 := by unfold seqAdd; rw [if_pos g]
    rw [e]
    constructor
    · unfold seqDiff diff
      rw [if_pos (by omega)]
      split <;> omega
    · unfold seqAdd
      rw [if_pos (by omega)]
      omega
  · omega
theorem diff_add (x y : Int) (hx : 0 ≤ x ∧ x < 4294967296) (hy : 0 ≤ y ∧ y < 4294967296) : seqAdd y (seqDiff x y) = x := by
  have e : seqDiff x y = diff x y := by unfold seqDiff; rw [if_pos (by omega)]
  have b := diff_bd x y
  have m := diff_mod x y
  rw [e]
  unfold seqAdd
  rw [if_pos (by omega)]
  omega
theorem diff_neg (x y : Int) (hx : 0 ≤ x ∧ x < 4294967296) (hy : 0 ≤ y ∧ y < 4294967296) (h : seqDiff x y ≠ -2147483648) : seqDiff y x = -seqDiff x y := by
  have e1 : seqDiff x y = diff x y := by unfold seqDiff; rw [if_pos (by omega)]
  have e2 : seqDiff y x = diff y x := by unfold seqDiff; rw [if_pos (by omega)]
  rw [e1] at h
  rw [e1, e2]
  unfold diff at *
  split at h <;> split <;> (try split) <;> omega
theorem diff_out (x y : Int) (h : x < 0 ∨ 4294967296 ≤ x ∨ y < 0 ∨ 4294967296 ≤ y) : seqDiff x y = 0 := by
  unfold seqDiff; rw [if_neg (by omega)]
theorem seqDiff_bd (x y : Int) : -2147483648 ≤ seqDiff x y ∧ seqDiff x y < 2147483648 := by
  unfold seqDiff
  have := diff_bd x y
  split <;> omega

theorem seqAdd_ge (a n : Int) : -1 ≤ seqAdd a n ∧ seqAdd a n < 4294967296 := by
  unfold seqAdd
  split <;> omega

def DrawUPost (w : World) (e : Ending) (w' : World) : Prop :=
  ∃ u v : Int, (u ≤ 30000000000 ∨ 4294967296000 < u) ∧ (Lit.int .i64 v).wf = true ∧ e = .returned (.tuple #[.int .i64 u, .int .i64 v]) ∧ w.grownBy w' none

theorem sum_off {u v : Int} (h : Near (-1) 4294967296 u) (v0 : 0 ≤ v) (v1 : v ≤ 4 - 1) : wrap64 (u + 4294967296 * v) ≤ 30000000000 ∨ 4294967296000 < wrap64 (u + 4294967296 * v) := by
  obtain ⟨hw, h⟩ := h
  have hb := bounds_i64 hw
  unfold wrap64
  omega

end Go.Proofs.Ythfhffcimjolgaa
