/- Contracts of reading a number from its bytes, the program's own and the model's, the highest byte first, over every text. -/
import Derived.Test.YthfhffcimjolgaaSum
import Derived.IntWalk
namespace Go.Proofs.Ythfhffcimjolgaa
open Go.RowKit

def getN (l : List UInt8) : Nat → Int
  | 0 => 0
  | k + 1 => 256 * getN l k + ((l.getD k 0).toNat : Int)
def getBe (l : List UInt8) : Int := if 1 ≤ l.length ∧ l.length ≤ 6 then getN l l.length else -1

theorem getN_nonneg (l : List UInt8) : ∀ k, 0 ≤ getN l k
  | 0 => by simp [getN]
  | k + 1 => by have := getN_nonneg l k; simp only [getN]; omega
theorem getN_lt (l : List UInt8) : ∀ k, getN l k < 256 ^ k
  | 0 => by simp [getN]
  | k + 1 => by
    have := getN_lt l k
    have hb := (l.getD k 0).toNat_lt
    have e : (256 : Int) ^ (k + 1) = 256 * 256 ^ k := by rw [Int.pow_succ, Int.mul_comm]
    simp only [getN]
    rw [e]
    generalize (256 : Int) ^ k = q at *
    omega
theorem getN_small (l : List UInt8) (k : Nat) (h : k ≤ 5) : getN l k < 1099511627776 := by
  have h1 := getN_lt l k
  have : k = 0 ∨ k = 1 ∨ k = 2 ∨ k = 3 ∨ k = 4 ∨ k = 5 := by omega
  rcases this with rfl | rfl | rfl | rfl | rfl | rfl <;> simp at h1 <;> omega
theorem getN_small6 (l : List UInt8) (k : Nat) (h : k ≤ 6) : getN l k < 281474976710656 := by
  have h1 := getN_lt l k
  have : k = 0 ∨ k = 1 ∨ k = 2 ∨ k = 3 ∨ k = 4 ∨ k = 5 ∨ k = 6 := by omega
  rcases this with rfl | rfl | rfl | rfl | rfl | rfl | rfl <;> simp at h1 <;> omega
theorem getN_next (s : ByteArray) (k : Nat) (h : k < s.size) : getN s.data.toList (k + 1) = 256 * getN s.data.toList k + (s[k].toNat : Int) := by
  have : s.data.toList.getD k 0 = s[k] := by
    rw [List.getD_eq_getElem?_getD, List.getElem?_eq_getElem (by simpa using h)]; rfl
  rw [getN, this]
theorem getBe_in (l : List UInt8) (h : 1 ≤ l.length ∧ l.length ≤ 6) : getBe l = getN l l.length := by unfold getBe; rw [if_pos h]
theorem getBe_out (l : List UInt8) (h : ¬ (1 ≤ l.length ∧ l.length ≤ 6)) : getBe l = -1 := by unfold getBe; rw [if_neg h]

def GetRel (s : ByteArray) (n i : Value) : Prop := ∃ k : Nat, k ≤ s.size ∧ i = .int .i64 k ∧ n = .int .i64 (getN s.data.toList k)
def GetRel2 (s : ByteArray) (n _j i : Value) : Prop := GetRel s n i

set_option maxRecDepth 100000 in
theorem get_spec1 (s : ByteArray) (w : World) (hs : s.size ≤ 6) : Calls Try.prog 30 #[.string s] w fun e w' => e = .returned (.int .i64 (getN s.data.toList s.size)) ∧ w = w' := by
  go_enter Try.func30, Try.ntmps30
  go_wp2
  go_loop [3, 4] (fun n i => GetRel s n i) (fun _ i => s.size - (intOf i).toNat)
  case atStart => exact ⟨0, by omega, rfl, rfl⟩
  case round =>
    obtain ⟨k, hk, rfl, rfl⟩ := hrel
    have h0 := getN_nonneg s.data.toList k
    by_cases hlt : k < s.size
    · have hn := Lib.hid (getN_next s k hlt)
      have h1 := getN_small s.data.toList k (by omega)
      have hc := s[k].toNat_lt
      go_wp2
      go_round
      case rel => exact ⟨k + 1, by omega, by go_num, by rw [hn.out]⟩
      case measure => simp [intOf]; omega
    · obtain rfl : k = s.size := by omega
      go_wp2
      go_ret
      exact ⟨rfl, rfl⟩

set_option maxRecDepth 100000 in
theorem width_any (n : Int) (w : World) : Calls Try.prog 55 #[.int .i64 n] w fun e w' => e = .returned (.bool (inB n 1 6)) ∧ w = w' := by
  by_cases h1 : 1 ≤ n
  · by_cases h2 : n ≤ 6
    all_goals
      go_enter Try.func55, Try.ntmps55
      go_wp2
      go_ret
      exact ⟨ret_b (by unfold inB; simp; omega), rfl⟩
  · go_enter Try.func55, Try.ntmps55
    go_wp2
    go_ret
    exact ⟨ret_b (by unfold inB; simp; omega), rfl⟩

set_option maxRecDepth 100000 in
theorem get_impl (s : ByteArray) (w : World) (hs : s.size ≤ maxLen) : Calls Try.prog 45 #[.string s] w fun e w' => e = .returned (.int .i64 (getBe s.data.toList)) ∧ w = w' := by
  unfold maxLen at hs
  cases h : inB (s.size : Int) 1 6
  · have h' := in_not h
    have H := Lib.hid (getBe_out s.data.toList (by rw [len_data]; omega))
    go_enter Try.func45, Try.ntmps45
    go_wp2_with (go_at_call 55; refine (width_any _ _).mono ?_; rintro e w' ⟨rfl, rfl⟩)
    go_ret
    exact ⟨ret_i (by rw [H.out]), rfl⟩
  · have h' := in_of h
    have h6 : s.size ≤ 6 := by omega
    have H := Lib.hid (getBe_in s.data.toList (by rw [len_data]; omega))
    go_enter Try.func45, Try.ntmps45
    go_wp2_with (go_at_call 55; refine (width_any _ _).mono ?_; rintro e w' ⟨rfl, rfl⟩)
    go_loop [3, 4, 11] (fun n j i => GetRel2 s n j i) (fun _ _ i => s.size - (intOf i).toNat)
    case atStart => exact ⟨0, by omega, rfl, rfl⟩
    case round =>
      obtain ⟨k, hk, rfl, rfl⟩ := hrel
      have h0 := getN_nonneg s.data.toList k
      by_cases hlt : k < s.size
      · have hn := Lib.hid (getN_next s k hlt)
        have h1 := getN_small s.data.toList k (by omega)
        have hc := s[k].toNat_lt
        have hj := (i64_join 8 (getN s.data.toList k * 256) (s[k].toNat : Int) (by omega) (by omega) (by omega) (by omega) (by omega) (by omega)).1
        go_wp2
        go_round
        case rel => exact ⟨k + 1, by omega, by go_num, by rw [hn.out]; go_num⟩
        case measure => simp [intOf]; omega
      · obtain rfl : k = s.size := by omega
        go_wp2
        go_ret
        exact ⟨ret_i (by rw [H.out, len_data]), rfl⟩

def bigE (l : List UInt8) : Int := l.foldl (fun n b => 256 * n + (b.toNat : Int)) 0

theorem bigE_snoc (l : List UInt8) (b : UInt8) : bigE (l ++ [b]) = 256 * bigE l + (b.toNat : Int) := by simp [bigE]
theorem fold_start (l : List UInt8) : ∀ n : Int, l.foldl (fun n b => 256 * n + (b.toNat : Int)) n = 256 ^ l.length * n + bigE l := by
  induction l with
  | nil => intro n; simp [bigE]
  | cons b l ih =>
    intro n
    have h2 : bigE (b :: l) = 256 ^ l.length * (256 * 0 + (b.toNat : Int)) + bigE l := by
      show l.foldl _ (256 * 0 + (b.toNat : Int)) = _
      exact ih _
    simp only [List.foldl_cons, List.length_cons]
    rw [ih, h2, Int.pow_succ, Int.mul_add, Int.mul_add, Int.mul_assoc]
    omega
theorem bigE_cons (b : UInt8) (l : List UInt8) : bigE (b :: l) = 256 ^ l.length * (b.toNat : Int) + bigE l := by
  have h := fold_start l (256 * 0 + (b.toNat : Int))
  show l.foldl _ (256 * 0 + (b.toNat : Int)) = _
  rw [h]
  congr 2
  omega
theorem take_next (l : List UInt8) (k : Nat) (h : k < l.length) : l.take (k + 1) = l.take k ++ [l.getD k 0] := by
  rw [List.take_succ_eq_append_getElem h, List.getD_eq_getElem?_getD, List.getElem?_eq_getElem h]
  rfl
theorem getN_bigE (l : List UInt8) : ∀ k, k ≤ l.length → getN l k = bigE (l.take k)
  | 0, _ => by simp [getN, bigE]
  | k + 1, h => by
    rw [getN, getN_bigE l k (by omega), take_next l k h, bigE_snoc]

def getR (l : List UInt8) : Nat → Int
  | 0 => 0
  | k + 1 => getR l k + 256 ^ k * ((l.getD k 0).toNat : Int)

theorem getR_bigE (l : List UInt8) : ∀ k, k ≤ l.length → getR l k = bigE (l.take k).reverse
  | 0, _ => by simp [getR, bigE]
  | k + 1, h => by
    have hl : (l.take k).reverse.length = k := by simp; omega
    rw [getR, getR_bigE l k (by omega), take_next l k h, List.reverse_append]
    show _ = bigE (l.getD k 0 :: (l.take k).reverse)
    rw [bigE_cons, hl, Int.add_comm]
theorem getR_all (l : List UInt8) : getR l l.length = getN l.reverse l.reverse.length := by
  rw [getR_bigE l _ (Nat.le_refl _), getN_bigE l.reverse _ (Nat.le_refl _), List.take_length, List.take_length]
theorem getR_bd (l : List UInt8) : ∀ k, 0 ≤ getR l k ∧ getR l k < 256 ^ k
  | 0 => by simp [getR]
  | k + 1 => by
    obtain ⟨h0, h1⟩ := getR_bd l k
    have hb := (l.getD k 0).toNat_lt
    have e : (256 : Int) ^ (k + 1) = 256 ^ k * 256 := Int.pow_succ _ _
    have hb' : ((l.getD k 0).toNat : Int) ≤ 255 := by omega
    have hq : (0 : Int) ≤ 256 ^ k := by omega
    have hm : (256 : Int) ^ k * ((l.getD k 0).toNat : Int) ≤ 256 ^ k * 255 := Int.mul_le_mul_of_nonneg_left hb' hq
    have hm0 : (0 : Int) ≤ 256 ^ k * ((l.getD k 0).toNat : Int) := Int.mul_nonneg hq (by omega)
    simp only [getR]
    rw [e]
    constructor
    · omega
    · omega
theorem getR_next (s : ByteArray) (k : Nat) (h : k < s.size) (h6 : k ≤ 5) : bits .or .i64 (getR s.data.toList k) (wrap64 ((s[k].toNat : Int) * 2 ^ (8 * k))) = getR s.data.toList (k + 1) := by
  have e : s.data.toList.getD k 0 = s[k] := by
    rw [List.getD_eq_getElem?_getD, List.getElem?_eq_getElem (by simpa using h)]; rfl
  have hb := s[k].toNat_lt
  obtain ⟨r0, r1⟩ := getR_bd s.data.toList k
  rw [getR, e]
  generalize getR s.data.toList k = x at *
  generalize s[k].toNat = b at *
  have : k = 0 ∨ k = 1 ∨ k = 2 ∨ k = 3 ∨ k = 4 ∨ k = 5 := by omega
  rcases this with rfl | rfl | rfl | rfl | rfl | rfl
  all_goals
    rw [IntWalk.wrap64_in _ ⟨by simp <;> omega, by simp <;> omega⟩]
  · simp at r1 ⊢
    obtain rfl : x = 0 := by omega
    have := (i64_join 0 (b : Int) 0 (by omega) (by omega) (by simp) (by omega) (by omega) (by simp)).2
    simpa using this
  · have := (i64_join 8 ((b : Int) * 256) x (by omega) (by omega) (by simp) (by omega) (by simp at r1; omega) (by simpa using r1)).2
    simp at this ⊢; omega
  · have := (i64_join 16 ((b : Int) * 65536) x (by omega) (by omega) (by simp) (by omega) (by simp at r1; omega) (by simpa using r1)).2
    simp at this ⊢; omega
  · have := (i64_join 24 ((b : Int) * 16777216) x (by omega) (by omega) (by simp) (by omega) (by simp at r1; omega) (by simpa using r1)).2
    simp at this ⊢; omega
  · have := (i64_join 32 ((b : Int) * 4294967296) x (by omega) (by omega) (by simp) (by omega) (by simp at r1; omega) (by simpa using r1)).2
    simp at this ⊢; omega
  · have := (i64_join 40 ((b : Int) * 1099511627776) x (by omega) (by omega) (by simp) (by omega) (by simp at r1; omega) (by simpa using r1)).2
    simp at this ⊢; omega

end Go.Proofs.Ythfhffcimjolgaa
