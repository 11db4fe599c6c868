/- Contracts of writing a number as bytes, the program's own and the model's, over every two numbers. -/
import Derived.Test.YthfhffcimjolgaaTurn
import Derived.LoopN
namespace Go.Proofs.Ythfhffcimjolgaa
open Go.RowKit

/-- The lowest k bytes of a number, the highest first. -/
def beL (n : Nat) : Nat → List UInt8
  | 0 => []
  | k + 1 => beL (n / 256) k ++ [UInt8.ofNat (n % 256)]
theorem beL_length (n : Nat) : ∀ k, (beL n k).length = k := by
  intro k
  induction k generalizing n with
  | zero => rfl
  | succ k ih => simp [beL, ih]
def putOk (n width : Int) : Prop := 1 ≤ width ∧ width ≤ 6 ∧ 0 ≤ n ∧ n < 256 ^ width.toNat
instance (n width : Int) : Decidable (putOk n width) := by unfold putOk; infer_instance
def putL (n width : Int) : List UInt8 := if putOk n width then beL n.toNat width.toNat else []
theorem putL_ok {n width : Int} (h : putOk n width) : putL n width = beL n.toNat width.toNat := by unfold putL; rw [if_pos h]
theorem putL_not {n width : Int} (h : ¬ putOk n width) : putL n width = [] := by unfold putL; rw [if_neg h]

def BeRel (w : World) (n0 : Nat) (W : Nat) (n i : Value) (wr : World) : Prop :=
  ∃ (r m : Nat) (t : List UInt8), r + t.length = W ∧ n = .int .i64 (m : Nat) ∧ ((r = 0 ∧ i = .int .i64 (-1)) ∨ ∃ q, r = q + 1 ∧ i = .int .i64 (q : Nat)) ∧ m ≤ n0 ∧
    beL n0 W = beL m r ++ t ∧ wr.ownsRow w.heap.size 5 1 (.slice (some ⟨w.heap.size, 0, none⟩) W W) W (bytesV (List.replicate r 0 ++ t)) ∧ w.grownBy wr none

theorem byte_of (m : Nat) : ((UInt8.ofNat (m % 256)).toNat : Int) = (m : Int) % 256 := by
  simp
theorem bytesV_at (q : Nat) (t : List UInt8) : (bytesV (List.replicate (q + 1) 0 ++ t))[q]? = some (.int .u8 0) := by
  simp [bytesV, List.getElem?_append]
theorem bytesV_set (q : Nat) (t : List UInt8) (x : UInt8) : (bytesV (List.replicate (q + 1) 0 ++ t)).set q (.int .u8 (x.toNat : Int)) = bytesV (List.replicate q 0 ++ x :: t) := by
  simp only [bytesV, ← List.map_set]
  congr 1
  rw [List.set_append_left _ _ (by simp)]
  rw [List.replicate_succ', List.set_append_right _ _ (by simp)]
  simp

set_option maxRecDepth 100000 in
theorem be_any (n : Nat) (W : Nat) (w : World) (h1 : 1 ≤ W) (h6 : W ≤ 6) (hn : n < 281474976710656) : Calls Try.prog 49 #[.int .i64 n, .int .i64 W] w (StrPost w (beL n W)) := by
  obtain ⟨i0, hi, hz0, hz1, hz2⟩ := info_parts info5
  go_enter Try.func49, Try.ntmps49
  go_wp2_with (at_make; refine wpList_make_full _ rfl _ _ 22 rfl w.heap.size 5 i0 (.int .u8 0) 1 Try.underlying22 hi hz0 hz1 _ _ _ _ W rfl rfl rfl rfl ?c1 ?c2 ?c3 ?_)
  case c1 => rw [hz2]; omega
  case c2 => unfold maxLen; omega
  case c3 => exact Nat.le_refl _
  intro w1 hown hg
  have HS := Lib.hid (And.intro hown hg)
  clear hown hg
  go_wp2_with fail
  go_loopw [0, 6] (fun n' i wr => BeRel w n W n' i wr) (fun _ i _ => (intOf i + 1).toNat)
  case atStart =>
    refine ⟨W, n, [], rfl, rfl, .inr ⟨W - 1, by omega, by rw [show ((W - 1 : Nat) : Int) = (W : Int) - 1 from by omega]⟩, Nat.le_refl _, by simp, ?_, HS.out.2⟩
    have e := HS.out.1
    rw [toList_madeCells_one] at e
    simpa [bytesV] using e
  case round =>
    obtain ⟨r, m, t, hr, rfl, hi', hm, hb, hown, hg⟩ := hrel
    rcases hi' with ⟨rfl, rfl⟩ | ⟨q, rfl, rfl⟩
    · have hl : t.length = W := by omega
      have hc := conv_row (l := t) hl (by simpa using hown)
      have HB := Lib.hid hb
      clear hb
      go_wp2_with fail
      go_ret
      exact ⟨by rw [HB.out]; rfl, hg⟩
    · have hcell : wr.cell? ⟨w.heap.size, q, none⟩ = some (.int .u8 0) := by rw [hown.cellAt q (by omega)]; exact bytesV_at q t
      have hfz := hown.frozenAt q
      have HO := Lib.hid (And.intro (hown.stored q (.int .u8 ((UInt8.ofNat (m % 256)).toNat : Int))) (And.intro hg hb))
      have hq : q < W := by omega
      have HR := Lib.hid hr
      clear hown hg hb hr
      go_wp2_with fail
      go_roundw
      case rel =>
        refine ⟨q, m / 256, UInt8.ofNat (m % 256) :: t, by have := HR.out; simp; omega, by go_num, ?_, by omega, ?_, ?_, ?_⟩
        · by_cases h0 : q = 0
          · exact .inl ⟨h0, by rw [h0]; rfl⟩
          · exact .inr ⟨q - 1, by omega, by rw [show ((q - 1 : Nat) : Int) = (q : Int) - 1 from by omega]⟩
        · rw [HO.out.2.2, beL]; simp
        · have e := HO.out.1.1
          rw [bytesV_set, byte_of] at e
          exact e
        · have e := HO.out.1.2
          rw [byte_of] at e
          exact grownBy_new HO.out.2.1 e (Nat.le_refl _)
      case measure => simp [intOf]

theorem ret_s {a b : List UInt8} (h : a = b) : Ending.returned (.string ⟨a.toArray⟩) = .returned (.string ⟨b.toArray⟩) := by rw [h]

theorem pow_bd (k : Int) (h1 : 1 ≤ k) (h6 : k ≤ 6) : (256 : Int) ^ k.toNat ≤ 281474976710656 := by
  have : k = 1 ∨ k = 2 ∨ k = 3 ∨ k = 4 ∨ k = 5 ∨ k = 6 := by omega
  rcases this with rfl | rfl | rfl | rfl | rfl | rfl <;> decide

theorem shift_small (n k : Int) (h1 : 1 ≤ k) (h6 : k ≤ 6) : n / 2 ^ (8 * k.toNat) = 0 ↔ 0 ≤ n ∧ n < 256 ^ k.toNat := by
  have : k = 1 ∨ k = 2 ∨ k = 3 ∨ k = 4 ∨ k = 5 ∨ k = 6 := by omega
  rcases this with rfl | rfl | rfl | rfl | rfl | rfl <;> simp <;> omega

set_option maxRecDepth 100000 in
theorem fits_any (n k : Int) (w : World) : Calls Try.prog 53 #[.int .i64 n, .int .i64 k] w fun e w' => e = .returned (.bool (decide (putOk n k))) ∧ w = w' := by
  cases g : inB k 1 6
  · have g' := in_not g
    have H := Lib.hid (decide_eq_false (p := putOk n k) (fun h => g' ⟨h.1, h.2.1⟩))
    go_enter Try.func53, Try.ntmps53
    go_wp2_with (go_at_call 55; refine (width_any _ _).mono ?_; rintro e w' ⟨rfl, rfl⟩)
    go_ret
    exact ⟨ret_b (by rw [H.out]), rfl⟩
  · have g' := in_of g
    by_cases h0 : 0 ≤ n
    · have e : putOk n k ↔ n < 256 ^ k.toNat := ⟨fun h => h.2.2.2, fun h => ⟨g'.1, g'.2, h0, h⟩⟩
      have HE := Lib.hid e
      clear e
      have : k = 1 ∨ k = 2 ∨ k = 3 ∨ k = 4 ∨ k = 5 ∨ k = 6 := by omega
      rcases this with rfl | rfl | rfl | rfl | rfl | rfl
      all_goals
        clear g'
        go_enter Try.func53, Try.ntmps53
        go_wp2_with (go_at_call 55; refine (width_any _ _).mono ?_; rintro e w' ⟨rfl, rfl⟩)
        go_ret
        refine ⟨ret_b ?_, rfl⟩
        rw [Bool.eq_iff_iff]
        simp [HE.out]
        omega
    · have H := Lib.hid (decide_eq_false (p := putOk n k) (fun h => h0 h.2.2.1))
      go_enter Try.func53, Try.ntmps53
      go_wp2_with (go_at_call 55; refine (width_any _ _).mono ?_; rintro e w' ⟨rfl, rfl⟩)
      go_ret
      exact ⟨ret_b (by rw [H.out]), rfl⟩

end Go.Proofs.Ythfhffcimjolgaa
