/- Contracts of writing a block as bytes, the program's own and the model's, over every block. -/
import Derived.Test.YtbhbbmocioefnaaDrawB
import Derived.Test.YtbhbbmocioefnaaOct
import Derived.Deep.RegionHeld3
namespace Go.Proofs.Ytbhbbmocioefnaa
open Go.RowKit

def numL (n width : Int) (big : Bool) : List UInt8 := if big then putL n width else (putL n width).reverse

set_option maxRecDepth 100000 in
theorem number_any (n k : Int) (big : Bool) (w : World) : Calls Try.prog 45 #[.int .i64 n, .int .i64 k, .bool big] w (StrPost w (numL n k big)) := by
  cases big
  · go_enter Try.func45, Try.ntmps45
    go_wp2_with fail
    refine (put_le_impl _ _ _).mono ?_
    rintro e w1 ⟨rfl, hg⟩
    have HG := Lib.hid hg
    clear hg
    go_wp2_with fail
    go_ret
    exact ⟨rfl, HG.out⟩
  · go_enter Try.func45, Try.ntmps45
    go_wp2_with fail
    refine (put_be_impl _ _ _).mono ?_
    rintro e w1 ⟨rfl, hg⟩
    have HG := Lib.hid hg
    clear hg
    go_wp2_with fail
    go_ret
    exact ⟨rfl, HG.out⟩

set_option maxRecDepth 100000 in
theorem number_spec (n k : Int) (big : Bool) (w : World) (h : putOk n k) : Calls Try.prog 40 #[.int .i64 n, .int .i64 k, .bool big] w (StrPost w (numL n k big)) := by
  have hp := pow_bd k h.1 h.2.1
  have hb : ∀ W, Calls Try.prog 68 #[.int .i64 n, .int .i64 k] W (StrPost W (putL n k)) := by
    intro W
    obtain ⟨h1, h2, h3, h4⟩ := h
    have := be_any n.toNat k.toNat W (by omega) (by omega) (by omega)
    rw [Int.toNat_of_nonneg h3, Int.toNat_of_nonneg (by omega)] at this
    rw [putL_ok ⟨h1, h2, h3, h4⟩]
    exact this
  have HB := Lib.hid hb
  have hl := Lib.hid (len_le n k)
  clear hb hp h
  cases big
  · go_enter Try.func40, Try.ntmps40
    go_wp2_with fail
    refine (HB.out _).mono ?_
    rintro e w1 ⟨rfl, hg⟩
    have HG := Lib.hid hg
    clear hg
    go_wp2_with fail
    refine (turn_any _ _ (by have := hl.out; rw [str_size]; omega)).mono ?_
    rintro e w2 ⟨rfl, hg⟩
    have HG2 := Lib.hid (grownBy_trans HG.out hg)
    clear hg
    go_wp2_with fail
    go_ret
    exact ⟨rfl, HG2.out⟩
  · go_enter Try.func40, Try.ntmps40
    go_wp2_with fail
    refine (HB.out _).mono ?_
    rintro e w1 ⟨rfl, hg⟩
    have HG := Lib.hid hg
    clear hg
    go_wp2_with fail
    go_ret
    exact ⟨rfl, HG.out⟩

theorem grownBy_drew {a : World} {r : Option Nat} : a.grownBy a.drew r := ⟨rfl, rfl, rfl, Nat.le_refl _, fun _ _ _ => rfl⟩

def sizeB (n : Int) : Bool := decide (0 ≤ n ∧ n ≤ 800 ∧ n % 4 = 0)

set_option maxRecDepth 100000 in
theorem size_any (n : Int) (w : World) : Calls Try.prog 44 #[.int .i64 n] w fun e w' => e = .returned (.bool (sizeB n)) ∧ w = w' := by
  by_cases h1 : 0 ≤ n
  · by_cases h2 : n ≤ 800
    all_goals
      go_enter Try.func44, Try.ntmps44
      go_wp2
      go_ret
      exact ⟨ret_b (by unfold sizeB; rw [Bool.eq_iff_iff]; simp; omega), rfl⟩
  · go_enter Try.func44, Try.ntmps44
    go_wp2
    go_ret
    exact ⟨ret_b (by unfold sizeB; simp; omega), rfl⟩

def blockOk (k : Int) (l : List UInt8) : Prop := 0 ≤ k ∧ k < 4294967296 ∧ l.length ≤ 800 ∧ l.length % 4 = 0
instance (k : Int) (l : List UInt8) : Decidable (blockOk k l) := by unfold blockOk; infer_instance
def blockT (k : Int) (l : List UInt8) (big : Bool) : List UInt8 := numL k 4 big ++ numL (l.length + 12) 4 big ++ l ++ numL (l.length + 12) 4 big
def blockL (k : Int) (l : List UInt8) (big : Bool) : List UInt8 := if blockOk k l then blockT k l big else []
theorem numL_len (n k : Int) (big : Bool) : (numL n k big).length ≤ 6 := by
  have := len_le n k
  unfold numL
  split
  · exact this
  · rw [List.length_reverse]; exact this

set_option maxRecDepth 100000 in
set_option maxHeartbeats 1000000 in
theorem block_impl (k : Int) (l : List UInt8) (big : Bool) (w : World) (hl : l.length ≤ 10000000) : Calls Try.prog 14 #[.agg #[.int .i64 k, .string ⟨l.toArray⟩], .bool big] w (StrPost w (blockL k l big)) := by
  cases g : goesB k
  · have H : blockL k l big = [] := if_neg (fun h => goes_not g ⟨h.1, h.2.1⟩)
    have H' := Lib.hid H
    clear H
    go_enter Try.func14, Try.ntmps14
    go_wp2_with (go_at_call 43; refine (goes_any _ _).mono ?_; rintro e w' ⟨rfl, rfl⟩)
    go_ret
    exact ⟨ret_s (a := []) H'.out.symm, World.grownBy_alloc _ _ _⟩
  · cases g2 : sizeB (l.length : Int)
    · have H : blockL k l big = [] := if_neg (fun h => by
        have : sizeB (l.length : Int) = true := by unfold sizeB; have := h.2.2; simp; omega
        rw [this] at g2; cases g2)
      have H' := Lib.hid H
      clear H
      go_enter Try.func14, Try.ntmps14
      go_wp2_with (first | (go_at_call 43; refine (goes_any _ _).mono ?_; rintro e w' ⟨rfl, rfl⟩) | (go_at_call 44; refine (size_any _ _).mono ?_; rintro e w' ⟨rfl, rfl⟩))
      go_ret
      exact ⟨ret_s (a := []) H'.out.symm, World.grownBy_alloc _ _ _⟩
    · have hs : 0 ≤ (l.length : Int) ∧ (l.length : Int) ≤ 800 ∧ (l.length : Int) % 4 = 0 := by simpa [sizeB] using g2
      have H : blockL k l big = blockT k l big := if_pos ⟨(goes_of g).1, (goes_of g).2, by omega, by omega⟩
      have H' := Lib.hid H
      have hs' : l.length ≤ 800 := by omega
      clear H hs hl
      go_enter Try.func14, Try.ntmps14
      go_wp2_with (first | (go_at_call 43; refine (goes_any _ _).mono ?_; rintro e w' ⟨rfl, rfl⟩) | (go_at_call 44; refine (size_any _ _).mono ?_; rintro e w' ⟨rfl, rfl⟩))
      refine (number_any _ _ _ _).mono ?_
      rintro e w1 ⟨rfl, hg⟩
      have hc0 := hg.cell (a := ⟨w.heap.size, 0, none⟩) (v := .int .i64 k) (by go_simp) (by simp)
      have hc1 := hg.cell (a := ⟨w.heap.size, 1, none⟩) (v := .string ⟨l.toArray⟩) (by go_simp) (by simp)
      have HG := Lib.hid (grownBy_trans (World.grownBy_alloc _ _ _) hg)
      clear hg g g2
      have hn1 := numL_len (l.length + 12) 4 big
      have hn2 := numL_len k 4 big
      go_wp2_with fail
      have hk1 : ¬ 9223372036854775807 < (numL k 4 big).length + (numL ((l.length : Int) + 12) 4 big).length := by omega
      have hk2 : ¬ 9223372036854775807 < (numL k 4 big).length + (numL ((l.length : Int) + 12) 4 big).length + l.length := by omega
      have hk3 : ¬ 9223372036854775807 < (numL k 4 big).length + (numL ((l.length : Int) + 12) 4 big).length + l.length + (numL ((l.length : Int) + 12) 4 big).length := by omega
      go_region_held3 (fun w' => w'.cell? ⟨w.heap.size, 0, none⟩ = some (.int .i64 k) ∧ w'.cell? ⟨w.heap.size, 1, none⟩ = some (.string ⟨l.toArray⟩) ∧ w1.grownBy w' none) ((refine ⟨by first | assumption | simp [*], by first | assumption | simp [*], by first | assumption | exact grownBy_drew | exact grownBy_trans (by assumption) (by assumption)⟩))
        (first | (go_at_call 45; refine (number_any _ _ _ _).mono ?_; rintro e w2 ⟨rfl, hg⟩; have q0 := hg.cell (a := ⟨w.heap.size, 0, none⟩) (v := .int .i64 k) (by assumption) (by simp); have q1 := hg.cell (a := ⟨w.heap.size, 1, none⟩) (v := .string ⟨l.toArray⟩) (by assumption) (by simp); have q2 := grownBy_trans grownBy_drew hg))
      go_wp2_with fail
      go_ret
      refine ⟨ret_ba ?_, ?_⟩
      · rw [H'.out, blockT, ba_append, ba_append, ba_append]
      · first
          | exact grownBy_trans HG.out (by assumption)
          | (rename_i hH _; exact grownBy_trans HG.out hH.2.2)
          | (rename_i hH; exact grownBy_trans HG.out hH.2.2)

set_option maxRecDepth 100000 in
theorem ok_spec (k : Int) (l : List UInt8) (w : World) (hl : l.length ≤ 10000000) : Calls Try.prog 57 #[.agg #[.int .i64 k, .string ⟨l.toArray⟩]] w fun e w' => e = .returned (.bool (decide (blockOk k l))) ∧ w.grownBy w' none := by
  cases g : goesB k
  · have H := Lib.hid (decide_eq_false (p := blockOk k l) (fun h => goes_not g ⟨h.1, h.2.1⟩))
    go_enter Try.func57, Try.ntmps57
    go_wp2_with (go_at_call 77; refine (seq_any _ _).mono ?_; rintro e w' ⟨rfl, rfl⟩)
    go_ret
    exact ⟨ret_b (by rw [H.out]), World.grownBy_alloc _ _ _⟩
  · have HE : blockOk k l ↔ l.length ≤ 800 ∧ l.length % 4 = 0 := ⟨fun h => ⟨h.2.2.1, h.2.2.2⟩, fun h => ⟨(goes_of g).1, (goes_of g).2, h.1, h.2⟩⟩
    have H := Lib.hid HE
    clear HE
    by_cases h4 : l.length % 4 = 0
    · have h4' : ((l.length : Int) % 4 == 0) = true := by simp; omega
      by_cases h8 : (l.length : Int) ≤ 800
      all_goals
        go_enter Try.func57, Try.ntmps57
        go_wp2_with (go_at_call 77; refine (seq_any _ _).mono ?_; rintro e w' ⟨rfl, rfl⟩)
        go_ret
        exact ⟨ret_b (by rw [Bool.eq_iff_iff]; simp [H.out]; omega), World.grownBy_alloc _ _ _⟩
    · have h4' : ((l.length : Int) % 4 == 0) = false := by simp; omega
      go_enter Try.func57, Try.ntmps57
      go_wp2_with (go_at_call 77; refine (seq_any _ _).mono ?_; rintro e w' ⟨rfl, rfl⟩)
      go_ret
      exact ⟨ret_b (by rw [Bool.eq_iff_iff]; simp [H.out]; omega), World.grownBy_alloc _ _ _⟩

set_option maxRecDepth 100000 in
set_option maxHeartbeats 1000000 in
theorem block_spec1 (k : Int) (l : List UInt8) (big : Bool) (w : World) (hb : blockOk k l) : Calls Try.prog 42 #[.agg #[.int .i64 k, .string ⟨l.toArray⟩], .bool big] w (StrPost w (blockT k l big)) := by
  have ok1 : putOk k 4 := ⟨by omega, by omega, hb.1, by have := hb.2.1; simpa using this⟩
  have ok2 : putOk ((l.length : Int) + 12) 4 := ⟨by omega, by omega, by omega, by have := hb.2.2.1; simp; omega⟩
  have ok3 : putOk (12 + (l.length : Int)) 4 := by rw [Int.add_comm]; exact ok2
  have e3 : numL (12 + (l.length : Int)) 4 big = numL ((l.length : Int) + 12) 4 big := by rw [Int.add_comm]
  have hs' : l.length ≤ 800 := hb.2.2.1
  have HO := Lib.hid (And.intro ok1 (And.intro ok3 e3))
  clear ok1 ok2 ok3 hb e3
  go_enter Try.func42, Try.ntmps42
  go_wp2_with fail
  refine (number_spec _ _ _ _ HO.out.2.1).mono ?_
  rintro e w1 ⟨rfl, hg⟩
  rw [HO.out.2.2]
  have hc0 := hg.cell (a := ⟨w.heap.size, 0, none⟩) (v := .int .i64 k) (by go_simp) (by simp)
  have hc1 := hg.cell (a := ⟨w.heap.size, 1, none⟩) (v := .string ⟨l.toArray⟩) (by go_simp) (by simp)
  have HG := Lib.hid (grownBy_trans (World.grownBy_alloc _ _ _) hg)
  clear hg
  have hn1 := numL_len (l.length + 12) 4 big
  have hn2 := numL_len k 4 big
  go_wp2_with fail
  have hk1 : ¬ 9223372036854775807 < (numL k 4 big).length + (numL ((l.length : Int) + 12) 4 big).length := by omega
  have hk2 : ¬ 9223372036854775807 < (numL k 4 big).length + (numL ((l.length : Int) + 12) 4 big).length + l.length := by omega
  have hk3 : ¬ 9223372036854775807 < (numL k 4 big).length + (numL ((l.length : Int) + 12) 4 big).length + l.length + (numL ((l.length : Int) + 12) 4 big).length := by omega
  go_region_held3 (fun w' => w'.cell? ⟨w.heap.size, 0, none⟩ = some (.int .i64 k) ∧ w'.cell? ⟨w.heap.size, 1, none⟩ = some (.string ⟨l.toArray⟩) ∧ w1.grownBy w' none) ((refine ⟨by first | assumption | simp [*], by first | assumption | simp [*], by first | assumption | exact grownBy_drew | exact grownBy_trans (by assumption) (by assumption)⟩))
    (first | (go_at_call 40; refine (number_spec _ _ _ _ HO.out.1).mono ?_; rintro e w2 ⟨rfl, hg⟩; have q0 := hg.cell (a := ⟨w.heap.size, 0, none⟩) (v := .int .i64 k) (by assumption) (by simp); have q1 := hg.cell (a := ⟨w.heap.size, 1, none⟩) (v := .string ⟨l.toArray⟩) (by assumption) (by simp); have q2 := grownBy_trans grownBy_drew hg))
  go_wp2_with fail
  go_ret
  refine ⟨ret_ba ?_, ?_⟩
  · rw [blockT, ba_append, ba_append, ba_append]
  · first
      | exact grownBy_trans HG.out (by assumption)
      | (rename_i hH _; exact grownBy_trans HG.out hH.2.2)
      | (rename_i hH; exact grownBy_trans HG.out hH.2.2)

set_option maxRecDepth 100000 in
theorem block_spec (k : Int) (l : List UInt8) (big : Bool) (w : World) (hl : l.length ≤ 10000000) : Calls Try.prog 29 #[.agg #[.int .i64 k, .string ⟨l.toArray⟩], .bool big] w (StrPost w (blockL k l big)) := by
  by_cases hb : blockOk k l
  · have H := Lib.hid (And.intro hb (if_pos hb : blockL k l big = blockT k l big))
    have hd := decide_eq_true hb
    clear hb
    go_enter Try.func29, Try.ntmps29
    go_wp2_with fail
    refine (ok_spec _ _ _ hl).mono ?_
    rintro e w1 ⟨rfl, hg⟩
    have hc0 := hg.cell (a := ⟨w.heap.size, 0, none⟩) (v := .int .i64 k) (by go_simp) (by simp)
    have hc1 := hg.cell (a := ⟨w.heap.size, 1, none⟩) (v := .string ⟨l.toArray⟩) (by go_simp) (by simp)
    have HG := Lib.hid (grownBy_trans (World.grownBy_alloc _ _ _) hg)
    clear hg
    go_wp2_with fail
    refine (block_spec1 _ _ _ _ H.out.1).mono ?_
    rintro e w2 ⟨rfl, hg⟩
    have HG2 := Lib.hid (grownBy_trans HG.out hg)
    clear hg
    go_wp2_with fail
    go_ret
    exact ⟨ret_s H.out.2.symm, HG2.out⟩
  · have H := Lib.hid (if_neg hb : blockL k l big = [])
    have hd := decide_eq_false hb
    clear hb
    go_enter Try.func29, Try.ntmps29
    go_wp2_with fail
    refine (ok_spec _ _ _ hl).mono ?_
    rintro e w1 ⟨rfl, hg⟩
    have HG := Lib.hid (grownBy_trans (World.grownBy_alloc _ _ _) hg)
    clear hg
    go_wp2_with fail
    go_ret
    exact ⟨ret_s (a := []) H.out.symm, HG.out⟩

end Go.Proofs.Ytbhbbmocioefnaa
