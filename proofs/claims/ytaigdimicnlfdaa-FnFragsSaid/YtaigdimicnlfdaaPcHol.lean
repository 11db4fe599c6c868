/- Holes are just what is not known; whether two rows of ranges are the same. -/
import Derived.Test.YtaigdimicnlfdaaPcSum
namespace Go.Proofs.Ytaigdimicnlfdaa
open Go.RowKit

def covers (x : Rg) (a : Int) : Bool := decide (x.1 ≤ a ∧ a < x.2)

def inH (hs : List Rg) (a : Int) : Bool := hs.any fun x => covers x a

theorem inH_nil (a : Int) : inH [] a = false := rfl

theorem inH_app (hs gs : List Rg) (a : Int) : inH (hs ++ gs) a = (inH hs a || inH gs a) := by simp [inH]

theorem inH_snoc (hs : List Rg) (x : Rg) (a : Int) : inH (hs ++ [x]) a = (inH hs a || covers x a) := by simp [inH]

theorem inH_hole (u v a : Int) : inH (hole u v) a = decide (u ≤ a ∧ a < v) := by
  unfold hole
  split
  · simp [inH, covers]
  · simp [inH]; omega

theorem holesF_ge (t : Int) : ∀ (l : List Pk) (a : Int), (∀ p ∈ l, a ≤ p.1) → Good l → ∀ x ∈ holesF l a t, a ≤ x.1 ∧ x.1 < x.2 ∧ x.2 ≤ t
  | [], a, _, _, x, hx => by
    rw [holesF, hole] at hx
    split at hx
    · rw [List.mem_singleton.mp hx]; exact ⟨Int.le_refl _, by assumption, Int.le_refl _⟩
    · cases hx
  | p :: l, a, hp, hg, x, hx => by
    obtain ⟨g, b, np⟩ := good_cons hg
    have h1 := hp p (by simp)
    rw [holesF] at hx
    rcases List.mem_append.mp hx with hx | hx
    · rw [hole] at hx
      split at hx
      · rw [List.mem_singleton.mp hx]
        rename_i hlt
        exact ⟨Int.le_refl _, hlt, Int.min_le_right _ _⟩
      · cases hx
    · have := holesF_ge t l (p.1 + (p.2.length : Int)) (fun q hq => by have := b q hq; unfold gap at this; omega) g x hx
      omega

theorem inH_ge {t a c : Int} {l : List Pk} (hp : ∀ p ∈ l, a ≤ p.1) (hg : Good l) (hc : c < a) : inH (holesF l a t) c = false := by
  rw [inH, List.any_eq_false]
  intro x hx
  have := holesF_ge t l a hp hg x hx
  simp [covers]
  omega

theorem inH_is (t : Int) : ∀ (l : List Pk) (a c : Int), (∀ p ∈ l, a ≤ p.1) → Good l → a ≤ c → c < t → inH (holesF l a t) c = (byteL l c).isNone
  | [], a, c, _, _, h0, h1 => by rw [holesF, inH_hole]; simp [byteL]; omega
  | p :: l, a, c, hp, hg, h0, h1 => by
    obtain ⟨g, b, np⟩ := good_cons hg
    have hpa := hp p (by simp)
    have hb : ∀ q ∈ l, p.1 + (p.2.length : Int) ≤ q.1 := fun q hq => by have := b q hq; unfold gap at this; omega
    rw [holesF, inH_app, inH_hole, byteL]
    by_cases hc : c < p.1
    · rw [pcAt_out (.inl hc), byteL_none fun q hq => pcAt_out (.inl (by have := hb q hq; omega))]
      rw [decide_eq_true (by omega : a ≤ c ∧ c < min p.1 t)]
      rfl
    · rw [decide_eq_false (by omega : ¬ (a ≤ c ∧ c < min p.1 t))]
      by_cases hc2 : c < p.1 + (p.2.length : Int)
      · obtain ⟨y, hy⟩ := pcAt_in (p := p) (a := c) (by omega) hc2
        rw [inH_ge hb g hc2, hy]
        rfl
      · rw [inH_is t l _ c hb g (by omega) h1, pcAt_out (.inr (by omega)), Option.none_or]
        rfl

def cnt (g : Nat → Bool) : Nat → Int
  | 0 => 0
  | n + 1 => cnt g n + if g n = true then 1 else 0

theorem cnt_or {g h : Nat → Bool} : ∀ n, (∀ i, i < n → ¬ (g i = true ∧ h i = true)) → cnt (fun i => g i || h i) n = cnt g n + cnt h n
  | 0, _ => by simp [cnt]
  | n + 1, hd => by
    have ih := cnt_or n fun i hi => hd i (by omega)
    have := hd n (by omega)
    simp only [cnt, ih]
    by_cases hg : g n = true
    · have hh : ¬ h n = true := fun e => this ⟨hg, e⟩
      rw [if_pos (by simp [hg]), if_pos hg, if_neg hh]
      omega
    · by_cases hh : h n = true
      · rw [if_pos (by simp [hh]), if_neg hg, if_pos hh]
        omega
      · rw [if_neg (by simp [hg, hh]), if_neg hg, if_neg hh]
        omega

theorem cnt_none {g : Nat → Bool} : ∀ n, (∀ i, i < n → g i = false) → cnt g n = 0
  | 0, _ => rfl
  | n + 1, h => by rw [cnt, cnt_none n fun i hi => h i (by omega), h n (by omega)]; simp

theorem cnt_cov (x : Rg) (h0 : 0 ≤ x.1) (h1 : x.1 ≤ x.2) : ∀ n : Nat, cnt (fun i => covers x (i : Int)) n = max 0 (min (n : Int) x.2 - x.1)
  | 0 => by simp [cnt]; omega
  | n + 1 => by
    rw [cnt, cnt_cov x h0 h1 n]
    by_cases hc : x.1 ≤ (n : Int) ∧ (n : Int) < x.2
    · simp only [covers, decide_eq_true hc]; simp; omega
    · simp only [covers, decide_eq_false hc]; simp; omega

theorem cnt_inH (n : Nat) : ∀ hs : List Rg, hs.Pairwise (fun x y => x.2 ≤ y.1) → (∀ x ∈ hs, 0 ≤ x.1 ∧ x.1 < x.2 ∧ x.2 ≤ (n : Int)) → cnt (fun i => inH hs (i : Int)) n = sumR hs
  | [], _, _ => (cnt_none (g := fun i : Nat => inH [] (i : Int)) n fun i _ => rfl).trans rfl
  | x :: hs, hp, hb => by
    obtain ⟨p1, p2⟩ := List.pairwise_cons.mp hp
    obtain ⟨b0, b1, b2⟩ := hb x (by simp)
    have e : (fun i : Nat => inH (x :: hs) (i : Int)) = fun i : Nat => (covers x (i : Int) || inH hs (i : Int)) := by funext i; simp [inH]
    rw [e, cnt_or n, cnt_cov x b0 (by omega) n, cnt_inH n hs p2 fun y hy => hb y (by simp [hy])]
    · simp only [sumR, List.map_cons, List.sum_cons]
      omega
    · intro i _ ⟨hc, hi⟩
      simp only [covers, decide_eq_true_eq] at hc
      simp only [inH, List.any_eq_true, covers, decide_eq_true_eq] at hi
      obtain ⟨y, hy, h1, _⟩ := hi
      have := p1 y hy
      omega

theorem holesF_pair (t : Int) : ∀ (l : List Pk) (a : Int), (∀ p ∈ l, a ≤ p.1) → Good l → (holesF l a t).Pairwise (fun x y => x.2 ≤ y.1)
  | [], a, _, _ => by rw [holesF, hole]; split <;> simp
  | p :: l, a, hp, hg => by
    obtain ⟨g, b, np⟩ := good_cons hg
    have hb : ∀ q ∈ l, p.1 + (p.2.length : Int) ≤ q.1 := fun q hq => by have := b q hq; unfold gap at this; omega
    rw [holesF, List.pairwise_append]
    refine ⟨by rw [hole]; split <;> simp, holesF_pair t l _ hb g, fun x hx y hy => ?_⟩
    have := holesF_ge t l _ hb g y hy
    rw [hole] at hx
    split at hx
    · rw [List.mem_singleton.mp hx]
      show min p.1 t ≤ _
      omega
    · cases hx

theorem open_sum {l : List Pk} (hok : PcsP l) (n : Nat) : cnt (fun i => (byteL l (i : Int)).isNone) n = sumR (holesF l 0 (n : Int)) := by
  have hp : ∀ p ∈ l, (0 : Int) ≤ p.1 := fun p hp => (hok.2.1 p hp).1
  rw [← cnt_inH n (holesF l 0 n) (holesF_pair n l 0 hp hok.good) (holesF_bd n l 0 (Int.le_refl _) hp)]
  have key : ∀ m : Nat, m ≤ n → cnt (fun i => (byteL l (i : Int)).isNone) m = cnt (fun i => inH (holesF l 0 (n : Int)) (i : Int)) m := by
    intro m
    induction m with
    | zero => intro _; rfl
    | succ m ih =>
      intro hm
      rw [cnt, cnt, ih (by omega), inH_is n l 0 m hp hok.good (by omega) (by omega)]
  exact key n (Nat.le_refl _)

theorem cnt_bd (g : Nat → Bool) : ∀ n, 0 ≤ cnt g n ∧ cnt g n ≤ n
  | 0 => by simp [cnt]
  | n + 1 => by
    have := cnt_bd g n
    rw [cnt]
    split <;> omega

end Go.Proofs.Ytaigdimicnlfdaa
