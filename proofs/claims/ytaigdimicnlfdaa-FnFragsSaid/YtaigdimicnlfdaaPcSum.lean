/- Holes and what is known are together all; a prefix is what is known from the beginning on. -/
import Derived.Test.YtaigdimicnlfdaaPcDraw
namespace Go.Proofs.Ytaigdimicnlfdaa
open Go.RowKit

def sumR (hs : List Rg) : Int := (hs.map fun x => x.2 - x.1).sum

def sumP (l : List Pk) : Int := (l.map fun x => (x.2.length : Int)).sum

theorem sumTo_all (l : List Pk) : sumTo l l.length = sumP l := by rw [sumTo, List.take_length, sumP]

theorem sumR_app (a b : List Rg) : sumR (a ++ b) = sumR a + sumR b := by simp only [sumR, List.map_append, List.sum_append]

theorem sumP_cons (p : Pk) (l : List Pk) : sumP (p :: l) = (p.2.length : Int) + sumP l := by simp only [sumP, List.map_cons, List.sum_cons]

theorem sumP_pos : ∀ l : List Pk, 0 ≤ sumP l
  | [] => by simp [sumP]
  | p :: l => by have := sumP_pos l; rw [sumP_cons]; omega

theorem sumR_hole {a b : Int} (h : a ≤ b) : sumR (hole a b) = b - a := by
  unfold hole
  split
  · simp [sumR]
  · simp [sumR]; omega

theorem fill_sum (t : Int) : ∀ (l : List Pk) (a : Int), Good l → (∀ p ∈ l, a ≤ p.1) → (∀ p ∈ l, p.1 + (p.2.length : Int) ≤ t) → a ≤ t → sumR (holesF l a t) + sumP l = t - a
  | [], a, _, _, _, h => by rw [holesF, sumR_hole h]; simp [sumP]
  | p :: l, a, hg, ha, ht, h => by
    obtain ⟨g, b, _⟩ := good_cons hg
    have h1 := ha p (by simp)
    have h2 := ht p (by simp)
    have ih := fill_sum t l (p.1 + (p.2.length : Int)) g (fun q hq => by have := b q hq; unfold gap at this; omega) (fun q hq => ht q (by simp [hq])) h2
    rw [holesF, sumR_app, sumP_cons, Int.min_eq_left (by omega), sumR_hole h1]
    omega

theorem fill_len : ∀ (l : List Pk) (a : Int), Good l → l ≠ [] → (holesF l a (endL l)).length ≤ l.length
  | [], _, _, h => absurd rfl h
  | [p], a, _, _ => by
    have e : endL [p] = p.1 + (p.2.length : Int) := by simp [endL]
    have h1 := hole_len a (min p.1 (p.1 + (p.2.length : Int)))
    rw [e, holesF, holesF, show hole (p.1 + (p.2.length : Int)) (p.1 + (p.2.length : Int)) = [] from if_neg (by omega)]
    simpa using h1
  | p :: q :: l, a, hg, _ => by
    obtain ⟨g, b, _⟩ := good_cons hg
    have e : endL (p :: q :: l) = endL (q :: l) := by simp [endL]
    have ih := fill_len (q :: l) (p.1 + (p.2.length : Int)) g (by simp)
    have h1 := hole_len a (min p.1 (endL (q :: l)))
    rw [e, holesF, List.length_append]
    simp only [List.length_cons] at ih ⊢
    omega

theorem holesF_bd (t : Int) : ∀ (l : List Pk) (a : Int), 0 ≤ a → (∀ p ∈ l, 0 ≤ p.1) → ∀ x ∈ holesF l a t, 0 ≤ x.1 ∧ x.1 < x.2 ∧ x.2 ≤ t
  | [], a, h0, _, x, hx => by
    rw [holesF, hole] at hx
    split at hx
    · rw [List.mem_singleton.mp hx]; exact ⟨h0, by assumption, Int.le_refl _⟩
    · cases hx
  | p :: l, a, h0, hp, x, hx => by
    have h1 := hp p (by simp)
    rw [holesF] at hx
    rcases List.mem_append.mp hx with hx | hx
    · rw [hole] at hx
      split at hx
      · rw [List.mem_singleton.mp hx]
        rename_i hlt
        exact ⟨h0, hlt, Int.min_le_right _ _⟩
      · cases hx
    · exact holesF_bd t l _ (by omega) (fun q hq => hp q (by simp [hq])) x hx

def sumRto (hs : List Rg) (j : Nat) : Int := sumR (hs.take j)

theorem sumRto_next (hs : List Rg) (j : Nat) (h : j < hs.length) : sumRto hs (j + 1) = sumRto hs j + (hs[j].2 - hs[j].1) := by
  unfold sumRto
  rw [List.take_succ_eq_append_getElem h, sumR_app]
  simp [sumR]

theorem sumRto_bd (hs : List Rg) (t : Int) (hb : ∀ x ∈ hs, 0 ≤ x.1 ∧ x.1 < x.2 ∧ x.2 ≤ t) : ∀ j, j ≤ hs.length → 0 ≤ sumRto hs j ∧ sumRto hs j ≤ t * (j : Int)
  | 0, _ => by simp [sumRto, sumR]
  | j + 1, h => by
    obtain ⟨a, b⟩ := sumRto_bd hs t hb j (by omega)
    obtain ⟨x0, x1, x2⟩ := hb _ (List.getElem_mem (show j < hs.length by omega))
    rw [sumRto_next hs j (by omega)]
    have e : t * ((j + 1 : Nat) : Int) = t * (j : Int) + t := by rw [Int.natCast_add, Int.mul_add]; simp
    rw [e]
    omega

theorem endL_bd {l : List Pk} (hok : PcsP l) : 0 ≤ endL l ∧ endL l ≤ 12000 := by
  cases hk : l.length with
  | zero => rw [List.length_eq_zero_iff.mp hk]; simp [endL]
  | succ k =>
    rw [endL_snoc l k hk]
    obtain ⟨x0, x1, x2, x3⟩ := hok.2.1 _ (List.getElem_mem (show k < l.length by omega))
    omega

theorem pre_yes {p : Pk} {l : List Pk} (hok : PcsP (p :: l)) (h0 : p.1 ≤ 0) : prefL (p :: l) = p.2 := by simp [prefL, pcs_yes hok, h0]

theorem pre_no {p : Pk} {l : List Pk} (h0 : ¬ p.1 ≤ 0) : prefL (p :: l) = [] := by simp [prefL, h0]

theorem pre_nil : prefL [] = [] := by simp [prefL]

/-- What the law on prefixes says. -/
theorem prefix_facts {l : List Pk} (hok : PcsP l) : (∀ i (h : i < (prefL l).length), byteL l (i : Int) = some (prefL l)[i]) ∧ byteL l ((prefL l).length : Int) = none ∧
    holesL l (((prefL l).length : Int) + 1) = [(((prefL l).length : Int), ((prefL l).length : Int) + 1)] ∧ ((prefL l).length : Int) ≤ knownL l ∧ (prefL l).length ≤ 6000 := by
  have hk : knownL l = sumP l := by rw [knownL, if_pos (pcs_yes hok), sumTo_all]
  have hh : ∀ t, 0 ≤ t → t ≤ 20000 → holesL l t = holesF l 0 t := fun t h0 h1 => by rw [holesL, if_pos ⟨pcs_yes hok, h0, h1⟩]
  cases l with
  | nil =>
    rw [pre_nil]
    refine ⟨by simp, rfl, ?_, ?_, by simp⟩
    · rw [hh _ (by simp) (by simp)]; simp [holesF, hole]
    · rw [hk]; simp [sumP]
  | cons p l =>
    obtain ⟨g, b, np⟩ := good_cons hok.good
    obtain ⟨p0, p1, p2, p3⟩ := hok.2.1 p (by simp)
    by_cases h0 : p.1 ≤ 0
    · rw [pre_yes hok h0]
      have e0 : p.1 = 0 := by omega
      refine ⟨fun i h => ?_, ?_, ?_, ?_, p3⟩
      · rw [byteL, pcAt, if_pos (by omega), show ((i : Int) - p.1).toNat = i by omega, List.getElem?_eq_getElem h]
        rfl
      · rw [byteL, pcAt_out (.inr (by omega)), byteL_low (B := p.1 + (p.2.length : Int)) b (by omega)]
        rfl
      · rw [hh _ (by omega) (by omega), holesF, e0, show hole 0 (min 0 ((p.2.length : Int) + 1)) = [] from if_neg (by omega), List.nil_append]
        cases l with
        | nil => rw [holesF, hole, if_pos (by omega)]; simp
        | cons q l =>
          have hq := b q (by simp)
          unfold gap at hq
          rw [holes_stop g (by omega), hole, if_pos (by omega)]
          simp
      · rw [hk, sumP_cons]
        have := sumP_pos l
        omega
    · rw [pre_no h0]
      refine ⟨by simp, ?_, ?_, ?_, by simp⟩
      · refine byteL_none fun q hq => pcAt_out (.inl ?_)
        rcases List.mem_cons.mp hq with rfl | hq
        · simp; omega
        · have := b q hq; unfold gap at this; simp; omega
      · rw [hh _ (by simp) (by simp), holes_stop hok.good (by simp; omega)]
        simp [hole]
      · rw [hk]
        have := sumP_pos (p :: l)
        simpa using this

end Go.Proofs.Ytaigdimicnlfdaa
