/- Contracts of the two sums, the program's own and the model's, over every text. -/
import Derived.Test.YthfhffcimjolgaaSeq
import Derived.LoopTactic
import Derived.Below
import Derived.Outline
import Derived.Laws.BitsAllLaws
namespace Go.Proofs.Ythfhffcimjolgaa
open Go.RowKit

theorem i64_and_nat (a b : Nat) (ha : a < 4611686018427387904) (hb : b < 4611686018427387904) : bits .and .i64 (a : Int) (b : Int) = ((a &&& b : Nat) : Int) := by
  have hx : a &&& b < 2 ^ 62 := Nat.and_lt_two_pow _ (by omega)
  show IntKind.i64.wrap ((BitVec.ofInt 64 (a : Int) &&& BitVec.ofInt 64 (b : Int)).toNat : Int) = _
  rw [BitVec.toNat_and, ofInt_u64 a (by omega), ofInt_u64 b (by omega), IntKind.wrap_i64]
  omega
theorem i64_or_nat (a b : Nat) (ha : a < 4611686018427387904) (hb : b < 4611686018427387904) : bits .or .i64 (a : Int) (b : Int) = ((a ||| b : Nat) : Int) := by
  have hx : a ||| b < 2 ^ 62 := Nat.or_lt_two_pow (by omega) (by omega)
  show IntKind.i64.wrap ((BitVec.ofInt 64 (a : Int) ||| BitVec.ofInt 64 (b : Int)).toNat : Int) = _
  rw [BitVec.toNat_or, ofInt_u64 a (by omega), ofInt_u64 b (by omega), IntKind.wrap_i64]
  omega
theorem i64_mask16 (x : Int) (h0 : 0 ≤ x) (h1 : x ≤ 1000000000000000) : bits .and .i64 x 65535 = x % 65536 := by
  obtain ⟨a, rfl⟩ := Int.eq_ofNat_of_zero_le h0
  have h := i64_and_nat a 65535 (by omega) (by omega)
  rw [show a &&& 65535 = a % 65536 from Nat.and_two_pow_sub_one_eq_mod a 16] at h
  exact h.trans (by omega)
/-- Two numbers that share no bit: the low one below 2 to the i, the high one a multiple of it. -/
theorem i64_join (i : Nat) (x y : Int) (hx0 : 0 ≤ x) (hx1 : x < 4611686018427387904) (hx : x % ((2 ^ i : Nat) : Int) = 0) (hy0 : 0 ≤ y) (hy1 : y < 4611686018427387904) (hy : y < ((2 ^ i : Nat) : Int)) : bits .or .i64 x y = x + y ∧ bits .or .i64 y x = x + y := by
  obtain ⟨a, rfl⟩ := Int.eq_ofNat_of_zero_le hx0
  obtain ⟨b, rfl⟩ := Int.eq_ofNat_of_zero_le hy0
  have h := i64_or_nat a b (by omega) (by omega)
  have h' := i64_or_nat b a (by omega) (by omega)
  have hj := nat_join i a b (by exact_mod_cast hx) (by exact_mod_cast hy)
  have hc : b ||| a = a ||| b := Nat.or_comm b a
  rw [hj] at h
  rw [hc, hj] at h'
  exact ⟨h.trans (by omega), h'.trans (by omega)⟩

def sumAt (k : Nat) (b : UInt8) : Int := if k % 2 = 0 then 256 * (b.toNat : Int) else (b.toNat : Int)
def sumN (l : List UInt8) : Nat → Int
  | 0 => 0
  | k + 1 => sumN l k + sumAt k (l.getD k 0)
def fin16 (n : Int) : Int := if n = 0 then 0 else (n - 1) % 65535 + 1
def sum16 (l : List UInt8) : Int := if l.length ≤ 2000 then 65535 - fin16 (sumN l l.length) else -1

theorem sumN_bd (l : List UInt8) : ∀ k, 0 ≤ sumN l k ∧ sumN l k ≤ 65280 * k
  | 0 => by simp [sumN]
  | k + 1 => by
    have ih := sumN_bd l k
    have hb := (l.getD k 0).toNat_lt
    simp only [sumN, sumAt]
    generalize sumN l k = x at *
    generalize (l.getD k 0).toNat = y at *
    have e : (((k + 1 : Nat)) : Int) = (k : Int) + 1 := by omega
    rw [e]
    split <;> omega
theorem sumN_next (s : ByteArray) (k : Nat) (h : k < s.size) : sumN s.data.toList (k + 1) = sumN s.data.toList k + sumAt k s[k] := by
  have : s.data.toList.getD k 0 = s[k] := by
    rw [List.getD_eq_getElem?_getD, List.getElem?_eq_getElem (by simpa using h)]; rfl
  rw [sumN, this]
theorem fin16_step (n : Int) (h : 65535 < n) : fin16 (n % 65536 + n / 65536) = fin16 n := by
  unfold fin16
  rw [if_neg (by omega), if_neg (by omega)]
  omega
theorem fin16_low (n : Int) (h0 : 0 ≤ n) (h : n ≤ 65535) : fin16 n = n := by
  unfold fin16
  split <;> omega
theorem sum16_le (l : List UInt8) (h : l.length ≤ 2000) : sum16 l = 65535 - fin16 (sumN l l.length) := by unfold sum16; rw [if_pos h]
theorem sum16_gt (l : List UInt8) (h : ¬ l.length ≤ 2000) : sum16 l = -1 := by unfold sum16; rw [if_neg h]

def SumRel (s : ByteArray) (n i : Value) : Prop := ∃ k : Nat, k ≤ s.size ∧ i = .int .i64 k ∧ n = .int .i64 (sumN s.data.toList k)
def FinRel (m : Int) (n : Value) : Prop := ∃ u : Int, 0 ≤ u ∧ u ≤ 1000000000 ∧ n = .int .i64 u ∧ fin16 u = m

set_option maxRecDepth 100000 in
theorem sum_spec1 (s : ByteArray) (w : World) (hs : s.size ≤ 2000) : Calls Try.prog 48 #[.string s] w fun e w' => e = .returned (.int .i64 (65535 - fin16 (sumN s.data.toList s.size))) ∧ w = w' := by
  go_enter Try.func48, Try.ntmps48
  go_wp2
  go_loop [3, 4] (fun n i => SumRel s n i) (fun _ i => s.size - (intOf i).toNat)
  case atStart => exact ⟨0, by omega, rfl, rfl⟩
  case round =>
    obtain ⟨k, hk, rfl, rfl⟩ := hrel
    have hb := sumN_bd s.data.toList k
    by_cases hlt : k < s.size
    · have hn := Lib.hid (sumN_next s k hlt)
      have hc := s[k].toNat_lt
      by_cases hp : k % 2 = 0
      · have hp' : ((k : Int) % 2 == 0) = true := by simp; omega
        go_wp2
        go_round
        case rel => exact ⟨k + 1, by omega, by go_num, by rw [hn.out, sumAt, if_pos hp]⟩
        case measure => simp [intOf]; omega
      · have hp' : ((k : Int) % 2 == 0) = false := by simp; omega
        go_wp2
        go_round
        case rel => exact ⟨k + 1, by omega, by go_num, by rw [hn.out, sumAt, if_neg hp]⟩
        case measure => simp [intOf]; omega
    · obtain rfl : k = s.size := by omega
      go_wp2
      go_loop [3] (fun n => FinRel (fin16 (sumN s.data.toList s.size)) n) (fun n => (intOf n).toNat)
      case atStart => exact ⟨_, by omega, by omega, rfl, rfl⟩
      case round =>
        obtain ⟨u, u0, u1, rfl, hu⟩ := hrel
        have HU := Lib.hid hu
        clear hu
        by_cases hg : 65535 < u
        · go_wp2
          go_round
          case rel => exact ⟨u % 65536 + u / 65536, by omega, by omega, rfl, by rw [fin16_step u hg, HU.out]⟩
          case measure => simp [intOf]; omega
        · go_wp2
          go_ret
          exact ⟨ret_i (by rw [← HU.out, fin16_low u u0 (by omega)]), rfl⟩

theorem len_data (s : ByteArray) : s.data.toList.length = s.size := by simp

def SumRel2 (s : ByteArray) (n _j i : Value) : Prop := SumRel s n i

set_option maxRecDepth 100000 in
theorem sum_impl (s : ByteArray) (w : World) (hs : s.size ≤ maxLen) : Calls Try.prog 44 #[.string s] w fun e w' => e = .returned (.int .i64 (sum16 s.data.toList)) ∧ w = w' := by
  unfold maxLen at hs
  by_cases h : s.size ≤ 2000
  · have H := Lib.hid (sum16_le s.data.toList (by rw [len_data]; exact h))
    go_enter Try.func44, Try.ntmps44
    go_wp2_with fail
    go_loop [3, 4, 10] (fun n j i => SumRel2 s n j i) (fun _ _ i => s.size - (intOf i).toNat)
    case atStart => exact ⟨0, by omega, rfl, rfl⟩
    case round =>
      obtain ⟨k, hk, rfl, rfl⟩ := hrel
      have hb := sumN_bd s.data.toList k
      by_cases hlt : k < s.size
      · have hn := Lib.hid (sumN_next s k hlt)
        have hc := s[k].toNat_lt
        by_cases hp : k % 2 = 0
        · have hp' : ((k : Int) % 2 == 0) = true := by simp; omega
          go_wp2
          go_round
          case rel => exact ⟨k + 1, by omega, by go_num, by rw [hn.out, sumAt, if_pos hp]; go_num⟩
          case measure => simp [intOf]; omega
        · have hp' : ((k : Int) % 2 == 0) = false := by simp; omega
          go_wp2
          go_round
          case rel => exact ⟨k + 1, by omega, by go_num, by rw [hn.out, sumAt, if_neg hp]⟩
          case measure => simp [intOf]; omega
      · obtain rfl : k = s.size := by omega
        go_wp2
        go_loop [3] (fun n => FinRel (fin16 (sumN s.data.toList s.size)) n) (fun n => (intOf n).toNat)
        case atStart => exact ⟨_, by omega, by omega, rfl, rfl⟩
        case round =>
          obtain ⟨u, u0, u1, rfl, hu⟩ := hrel
          have HU := Lib.hid hu
          clear hu
          have hm := i64_mask16 u u0 (by omega)
          by_cases hg : 65535 < u
          · go_wp2
            go_round
            case rel => exact ⟨u % 65536 + u / 65536, by omega, by omega, by go_num, by rw [fin16_step u hg, HU.out]⟩
            case measure => simp [intOf]; omega
          · clear hm
            go_wp2
            go_ret
            exact ⟨ret_i (by rw [H.out, len_data, ← HU.out, fin16_low u u0 (by omega)]), rfl⟩
  · have H := Lib.hid (sum16_gt s.data.toList (by rw [len_data]; exact h))
    go_enter Try.func44, Try.ntmps44
    go_wp2_with fail
    go_ret
    exact ⟨ret_i (by rw [H.out]), rfl⟩

end Go.Proofs.Ythfhffcimjolgaa
