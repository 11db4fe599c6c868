/- Contracts of reading a number from its bytes, the program's own and the model's, the highest byte first, over every text. -/
import Derived.Test.YteffpcgmoegomaaSum
import Derived.IntWalk
namespace Go.Proofs.Yteffpcgmoegomaa
open Go.RowKit

def getN (l : List UInt8) : Nat → Int
  | 0 => 0
  | k + 1 => 256 * getN l k + ((l.getD k 0).toNat : Int)
def getBe (l : List UInt8) : Int := if 1 ≤ l.length ∧ l.length ≤ 6 then getN l l.length else -1

theorem getN_nonneg (l : List UInt8) : ∀ k, 0 ≤ getN l k
  | 0 => by simp [getN]
  | k + 1 => by have := getN_nonneg l k; simp only [getN]; omega
theorem getN_lt (l : List UInt8) : ∀ k, getN l k < 256 ^ k
  | 0 => by simp [getN]
  | k + 1 => by
    have := getN_lt l k
    have hb := (l.getD k 0).toNat_lt
    have e : (256 : Int) ^ (k + 1) = 256 * 256 ^ k := by rw [Int.pow_succ, Int.mul_comm]
    simp only [getN]
    rw [e]
    generalize (256 : Int) ^ k = q at *
    omega
theorem getN_small (l : List UInt8) (k : Nat) (h : k ≤ 5) : getN l k < 1099511627776 := by
  have h1 := getN_lt l k
  have : k = 0 ∨ k = 1 ∨ k = 2 ∨ k = 3 ∨ k = 4 ∨ k = 5 := by omega
  rcases this with rfl | rfl | rfl | rfl | rfl | rfl <;> simp at h1 <;> omega
theorem getN_small6 (l : List UInt8) (k : Nat) (h : k ≤ 6) : getN l k < 281474976710656 := by
  have h1 := getN_lt l k
  have : k = 0 ∨ k = 1 ∨ k = 2 ∨ k = 3 ∨ k = 4 ∨ k = 5 ∨ k = 6 := by omega
  rcases this with rfl | rfl | rfl | rfl | rfl | rfl | rfl <;> simp at h1 <;> omega
theorem getN_next (s : ByteArray) (k : Nat) (h : k < s.size) : getN s.data.toList (k + 1) = 256 * getN s.data.toList k + (s[k].toNat : Int) := by
  have : s.data.toList.getD k 0 = s[k] := by
    rw [List.getD_eq_getElem?_getD, List.getElem?_eq_getElem (by simpa using h)]; rfl
  rw [getN, this]
theorem getBe_in (l : List UInt8) (h : 1 ≤ l.length ∧ l.length ≤ 6) : getBe l = getN l l.length := by unfold getBe; rw [if_pos h]
theorem getBe_out (l : List UInt8) (h : ¬ (1 ≤ l.length ∧ l.length ≤ 6)) : getBe l = -1 := by unfold getBe; rw [if_neg h]

def GetRel (s : ByteArray) (n i : Value) : Prop := ∃ k : Nat, k ≤ s.size ∧ i = .int .i64 k ∧ n = .int .i64 (getN s.data.toList k)
def GetRel2 (s : ByteArray) (n _j i : Value) : Prop := GetRel s n i

def bigE (l : List UInt8) : Int := l.foldl (fun n b => 256 * n + (b.toNat : Int)) 0

theorem bigE_snoc (l : List UInt8) (b : UInt8) : bigE (l ++ [b]) = 256 * bigE l + (b.toNat : Int) := by simp [bigE]
theorem fold_start (l : List UInt8) : ∀ n : Int, l.foldl (fun n b => 256 * n + (b.toNat : Int)) n = 256 ^ l.length * n + bigE l := by
  induction l with
  | nil => intro n; simp [bigE]
  | cons b l ih =>
    intro n
    have h2 : bigE (b :: l) = 256 ^ l.length * (256 * 0 + (b.toNat : Int)) + bigE l := by
      show l.foldl _ (256 * 0 + (b.toNat : Int)) = _
      exact ih _
    simp only [List.foldl_cons, List.length_cons]
    rw [ih, h2, Int.pow_succ, Int.mul_add, Int.mul_add, Int.mul_assoc]
    omega
theorem bigE_cons (b : UInt8) (l : List UInt8) : bigE (b :: l) = 256 ^ l.length * (b.toNat : Int) + bigE l := by
  have h := fold_start l (256 * 0 + (b.toNat : Int))
  show l.foldl _ (256 * 0 + (b.toNat : Int)) = _
  rw [h]
  congr 2
  omega
theorem take_next (l : List UInt8) (k : Nat) (h : k < l.length) : l.take (k + 1) = l.take k ++ [l.getD k 0] := by
  rw [List.take_succ_eq_append_getElem h, List.getD_eq_getElem?_getD, List.getElem?_eq_getElem h]
  rfl
theorem getN_bigE (l : List UInt8) : ∀ k, k ≤ l.length → getN l k = bigE (l.take k)
  | 0, _ => by simp [getN, bigE]
  | k + 1, h => by
    rw [getN, getN_bigE l k (by omega), take_next l k h, bigE_snoc]

def getR (l : List UInt8) : Nat → Int
  | 0 => 0
  | k + 1 => getR l k + 256 ^ k * ((l.getD k 0).toNat : Int)

theorem getR_bigE (l : List UInt8) : ∀ k, k ≤ l.length → getR l k = bigE (l.take k).reverse
  | 0, _ => by simp [getR, bigE]
  | k + 1, h => by
    have hl : (l.take k).reverse.length = k := by simp; omega
    rw [getR, getR_bigE l k (by omega), take_next l k h, List.reverse_append]
    show _ = bigE (l.getD k 0 :: (l.take k).reverse)
    rw [bigE_cons, hl, Int.add_comm]
theorem getR_all (l : List UInt8) : getR l l.length = getN l.reverse l.reverse.length := by
  rw [getR_bigE l _ (Nat.le_refl _), getN_bigE l.reverse _ (Nat.le_refl _), List.take_length, List.take_length]
theorem getR_bd (l : List UInt8) : ∀ k, 0 ≤ getR l k ∧ getR l k < 256 ^ k
  | 0 => by simp [getR]
  | k + 1 => by
    obtain ⟨h0, h1⟩ := getR_bd l k
    have hb := (l.getD k 0).toNat_lt
    have e : (256 : Int) ^ (k + 1) = 256 ^ k * 256 := Int.pow_succ _ _
    have hb' : ((l.getD k 0).toNat : Int) ≤ 255 := by omega
    have hq : (0 : Int) ≤ 256 ^ k := by omega
    have hm : (256 : Int) ^ k * ((l.getD k 0).toNat : Int) ≤ 256 ^ k * 255 := Int.mul_le_mul_of_nonneg_left hb' hq
    have hm0 : (0 : Int) ≤ 256 ^ k * ((l.getD k 0).toNat : Int) := Int.mul_nonneg hq (by omega)
    simp only [getR]
    rw [e]
    constructor
    · omega
    · omega
theorem getR_next (s : ByteArray) (k : Nat) (h : k < s.size) (h6 : k ≤ 5) : bits .or .i64 (getR s.data.toList k) (wrap64 ((s[k].toNat : Int) * 2 ^ (8 * k))) = getR s.data.toList (k + 1) := by
  have e : s.data.toList.getD k 0 = s[k] := by
    rw [List.getD_eq_getElem?_getD, List.getElem?_eq_getElem (by simpa using h)]; rfl
  have hb := s[k].toNat_lt
  obtain ⟨r0, r1⟩ := getR_bd s.data.toList k
  rw [getR, e]
  generalize getR s.data.toList k = x at *
  generalize s[k].toNat = b at *
  have : k = 0 ∨ k = 1 ∨ k = 2 ∨ k = 3 ∨ k = 4 ∨ k = 5 := by omega
  rcases this with rfl | rfl | rfl | rfl | rfl | rfl
  all_goals
    rw [IntWalk.wrap64_in _ ⟨by simp <;> omega, by simp <;> omega⟩]
  · simp at r1 ⊢
    obtain rfl : x = 0 := by omega
    have := (i64_join 0 (b : Int) 0 (by omega) (by omega) (by simp) (by omega) (by omega) (by simp)).2
    simpa using this
  · have := (i64_join 8 ((b : Int) * 256) x (by omega) (by omega) (by simp) (by omega) (by simp at r1; omega) (by simpa using r1)).2
    simp at this ⊢; omega
  · have := (i64_join 16 ((b : Int) * 65536) x (by omega) (by omega) (by simp) (by omega) (by simp at r1; omega) (by simpa using r1)).2
    simp at this ⊢; omega
  · have := (i64_join 24 ((b : Int) * 16777216) x (by omega) (by omega) (by simp) (by omega) (by simp at r1; omega) (by simpa using r1)).2
    simp at this ⊢; omega
  · have := (i64_join 32 ((b : Int) * 4294967296) x (by omega) (by omega) (by simp) (by omega) (by simp at r1; omega) (by simpa using r1)).2
    simp at this ⊢; omega
  · have := (i64_join 40 ((b : Int) * 1099511627776) x (by omega) (by omega) (by simp) (by omega) (by simp at r1; omega) (by simpa using r1)).2
    simp at this ⊢; omega

end Go.Proofs.Yteffpcgmoegomaa
