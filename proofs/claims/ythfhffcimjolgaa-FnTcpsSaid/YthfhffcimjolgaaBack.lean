/- Contract of the laws' own turning of a text, and what the numbers and sums of chapter 1 are to each other. -/
import Derived.Test.YthfhffcimjolgaaDrawB
import Derived.Test.YthfhffcimjolgaaOct
import Derived.Lib.Strings
import Derived.Lib.IndexBytes
namespace Go.Proofs.Ythfhffcimjolgaa
open Go.RowKit

theorem bigE_beL : ∀ (k n : Nat), bigE (beL n k) = ((n % 256 ^ k : Nat) : Int)
  | 0, n => by simp [beL, bigE, Nat.mod_one]
  | k + 1, n => by
    rw [beL, bigE_snoc, bigE_beL k, byte_of, Nat.pow_succ, Nat.mul_comm (256 ^ k) 256, Nat.mod_mul]
    omega
theorem bigE_nonneg (l : List UInt8) : 0 ≤ bigE l := by
  have h := getN_nonneg l l.length
  rw [getN_bigE l _ (Nat.le_refl _), List.take_length] at h
  exact h
theorem bigE_lt (l : List UInt8) : bigE l < 256 ^ l.length := by
  have h := getN_lt l l.length
  rw [getN_bigE l _ (Nat.le_refl _), List.take_length] at h
  exact h
theorem beL_bigE_rev : ∀ r : List UInt8, beL (bigE r.reverse).toNat r.length = r.reverse
  | [] => rfl
  | b :: r => by
    have h0 := bigE_nonneg r.reverse
    have hb := b.toNat_lt
    rw [List.reverse_cons, bigE_snoc, List.length_cons, beL]
    have e1 : (256 * bigE r.reverse + (b.toNat : Int)).toNat / 256 = (bigE r.reverse).toNat := by omega
    have e2 : (256 * bigE r.reverse + (b.toNat : Int)).toNat % 256 = b.toNat := by omega
    rw [e1, e2, beL_bigE_rev r]
    simp
theorem beL_bigE (l : List UInt8) : beL (bigE l).toNat l.length = l := by
  have h := beL_bigE_rev l.reverse
  rw [List.reverse_reverse, List.length_reverse] at h
  exact h
theorem getBe_bigE (l : List UInt8) (h : 1 ≤ l.length ∧ l.length ≤ 6) : getBe l = bigE l := by
  rw [getBe_in l h, getN_bigE l _ (Nat.le_refl _), List.take_length]
/-- A number comes back from its bytes. -/
theorem get_put (n k : Int) (h : putOk n k) : getBe (putL n k) = n := by
  have hl : (putL n k).length = k.toNat := by rw [putL_ok h, beL_length]
  obtain ⟨h1, h2, h3, h4⟩ := h
  rw [getBe_bigE _ (by omega), putL_ok ⟨h1, h2, h3, h4⟩, bigE_beL]
  have e : n.toNat % 256 ^ k.toNat = n.toNat := by
    apply Nat.mod_eq_of_lt
    have e : (n.toNat : Int) = n := Int.toNat_of_nonneg h3
    have : ((n.toNat : Nat) : Int) < ((256 ^ k.toNat : Nat) : Int) := by rw [e]; simpa using h4
    exact_mod_cast this
  rw [e]
  omega
/-- Bytes come back from their number. -/
theorem put_get (l : List UInt8) (h : 0 ≤ getBe l) : putL (getBe l) l.length = l := by
  have hl : 1 ≤ l.length ∧ l.length ≤ 6 := by
    by_cases hl : 1 ≤ l.length ∧ l.length ≤ 6
    · exact hl
    · rw [getBe_out l hl] at h; omega
  have hb := bigE_lt l
  have h0 := bigE_nonneg l
  rw [getBe_bigE l hl, putL_ok ⟨by omega, by omega, h0, by simpa using hb⟩]
  simpa using beL_bigE l
theorem putL_empty (n k : Int) : putL n k = [] ↔ ¬ putOk n k := by
  constructor
  · intro h ho
    have hl : (putL n k).length = k.toNat := by rw [putL_ok ho, beL_length]
    have := ho.1
    rw [h] at hl
    simp at hl
    omega
  · exact putL_not

/-! sums -/
theorem sumAt_even (m j : Nat) (b : UInt8) (h : m % 2 = 0) : sumAt (m + j) b = sumAt j b := by
  unfold sumAt
  have : (m + j) % 2 = j % 2 := by omega
  rw [this]
theorem getD_app (l t : List UInt8) (k : Nat) (h : k < l.length) : (l ++ t).getD k 0 = l.getD k 0 := by
  rw [List.getD_eq_getElem?_getD, List.getD_eq_getElem?_getD, List.getElem?_append_left h]
theorem getD_app_right (l t : List UInt8) (k : Nat) (h : l.length ≤ k) : (l ++ t).getD k 0 = t.getD (k - l.length) 0 := by
  rw [List.getD_eq_getElem?_getD, List.getD_eq_getElem?_getD, List.getElem?_append_right h]
theorem sumN_app (l t : List UInt8) (h : l.length % 2 = 0) : ∀ j, j ≤ t.length → sumN (l ++ t) (l.length + j) = sumN l l.length + sumN t j
  | 0, _ => by
    have : ∀ k, k ≤ l.length → sumN (l ++ t) k = sumN l k := by
      intro k
      induction k with
      | zero => intro _; rfl
      | succ k ih =>
        intro hk
        simp only [sumN]
        rw [ih (by omega), getD_app _ _ _ (by omega)]
    rw [Nat.add_zero, this _ (Nat.le_refl _)]
    simp [sumN]
  | j + 1, hj => by
    rw [← Nat.add_assoc]
    simp only [sumN]
    rw [sumN_app l t h j (by omega), sumAt_even _ _ _ h]
    have e : (l ++ t).getD (l.length + j) 0 = t.getD j 0 := by
      rw [getD_app_right _ _ _ (by omega)]
      congr 1
      omega
    rw [e]
    omega
def tot (l : List UInt8) : Int := sumN l l.length
theorem tot_app (l t : List UInt8) (h : l.length % 2 = 0) : tot (l ++ t) = tot l + tot t := by
  unfold tot
  rw [List.length_append, sumN_app l t h _ (Nat.le_refl _)]
theorem tot_nonneg (l : List UInt8) : 0 ≤ tot l := (sumN_bd l _).1
theorem tot_zero (l : List UInt8) : tot (l ++ [0]) = tot l := by
  have hh : ∀ k, k ≤ l.length → sumN (l ++ [0]) k = sumN l k := by
    intro k
    induction k with
    | zero => intro _; rfl
    | succ k ih =>
      intro hk
      simp only [sumN]
      rw [ih (by omega), getD_app _ _ _ (by omega)]
  unfold tot
  rw [List.length_append, List.length_singleton]
  simp only [sumN]
  rw [hh _ (Nat.le_refl _), getD_app_right _ _ _ (Nat.le_refl _)]
  simp [sumAt]
theorem sum16_tot (l : List UInt8) (h : l.length ≤ 2000) : sum16 l = 65535 - fin16 (tot l) := sum16_le l h
theorem fin16_bd (n : Int) (_h : 0 ≤ n) : 0 ≤ fin16 n ∧ fin16 n ≤ 65535 := by unfold fin16; split <;> omega
/-- An even number of bytes with their sum behind them has the sum 0. -/
theorem sum_zero (l : List UInt8) (h : l.length % 2 = 0) (h1 : l.length ≤ 1998) : sum16 (l ++ putL (sum16 l) 2) = 0 := by
  have ht := tot_nonneg l
  have hf := fin16_bd _ ht
  have hs := sum16_tot l (by omega)
  have hok : putOk (sum16 l) 2 := ⟨by omega, by omega, by omega, by simp; omega⟩
  have e2 : tot (putL (sum16 l) 2) = sum16 l := by
    rw [putL_ok hok]
    show tot (beL (sum16 l).toNat 2) = _
    rw [beL_2]
    simp [tot, sumN, sumAt]
    omega
  have hl2 : (putL (sum16 l) 2).length = 2 := by rw [putL_ok hok, beL_length]; rfl
  rw [sum16_tot _ (by rw [List.length_append, hl2]; omega), tot_app l _ h, e2, hs]
  unfold fin16 at *
  split <;> split <;> omega
theorem sum_swap (l : List UInt8) (h : l.length % 2 = 0) (h1 : l.length ≤ 2000) (h4 : 4 ≤ l.length) : sum16 ((l.drop 2).take 2 ++ l.take 2 ++ l.drop 4) = sum16 l := by
  have e : l = l.take 2 ++ ((l.drop 2).take 2 ++ l.drop 4) := by
    conv => lhs; rw [← List.take_append_drop 2 l, ← List.take_append_drop 2 (l.drop 2), List.drop_drop]
  have ht : tot l = tot (l.take 2) + (tot ((l.drop 2).take 2) + tot (l.drop 4)) := by
    conv => lhs; rw [e]
    rw [tot_app _ _ (by simp; omega), tot_app _ _ (by simp; omega)]
  have hl : ((l.drop 2).take 2 ++ l.take 2 ++ l.drop 4).length ≤ 2000 := by simp; omega
  rw [sum16_tot _ hl, sum16_tot _ h1, List.append_assoc, tot_app _ _ (by simp; omega), tot_app _ _ (by simp; omega), ht]
  congr 2
  omega

def BackRel (s : ByteArray) (out i : Value) : Prop := ∃ k : Nat, k ≤ s.size ∧ i = .int .i64 k ∧ out = .string ⟨(s.data.toList.take k).reverse.toArray⟩

theorem back_step (s : ByteArray) (k : Nat) (h : k < s.size) : s.extract k (k + 1) ++ ⟨(s.data.toList.take k).reverse.toArray⟩ = ⟨(s.data.toList.take (k + 1)).reverse.toArray⟩ := by
  have e : s.extract k (k + 1) = ⟨[s.data.toList.getD k 0].toArray⟩ := by
    refine ba_of ?_
    rw [Lib.extract_data, show k + 1 - k = 1 from by omega, List.getD_eq_getElem?_getD, List.getElem?_eq_getElem (by simpa using h), List.drop_eq_getElem_cons (by simpa using h)]
    rfl
  rw [e, ba_append, take_next _ k (by simpa using h), List.reverse_append]
  rfl

end Go.Proofs.Ythfhffcimjolgaa
