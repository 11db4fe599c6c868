/- Boards: what is sent, what is acked, and what is sacked, as lists. -/
import Derived.Test.YtedgfiagefhahaaBdN
namespace Go.Proofs.Ytedgfiagefhahaa
open Go.RowKit

def Pw (l : List Rg) : Prop := l.Pairwise fun a b => a.2 < b.1
theorem apart_of_pw : ∀ (l : List Rg), Pw l → RApart l
  | [], _ => fun i h => by simp at h
  | x :: l, h => by
    intro i hi
    have h2 := List.pairwise_cons.1 h
    cases i with
    | zero =>
      have hl : 0 < l.length := by simpa using hi
      exact h2.1 _ (List.getElem_mem hl)
    | succ i => exact apart_of_pw l h2.2 i (by simpa using hi)
theorem pw_of_apart : ∀ (l : List Rg), (∀ x ∈ l, x.1 < x.2) → RApart l → Pw l
  | [], _, _ => List.Pairwise.nil
  | x :: l, hp, h => by
    have ih := pw_of_apart l (fun y hy => hp y (List.mem_cons_of_mem _ hy)) (fun i hi => h (i + 1) (by simpa using hi))
    refine List.pairwise_cons.2 ⟨fun y hy => ?_, ih⟩
    cases l with
    | nil => simp at hy
    | cons z t =>
      have h0 : x.2 < z.1 := h 0 (by simp)
      rcases List.mem_cons.1 hy with rfl | hy
      · exact h0
      · have hz := hp z (by simp)
        have hzy := (List.pairwise_cons.1 ih).1 y hy
        omega
theorem beyF_flat (p : Int) : ∀ l : List Rg, beyF p l = l.flatMap (cutB p)
  | [] => rfl
  | x :: l => by rw [beyF, beyF_flat p l, List.flatMap_cons]
theorem hole_mem {a b : Int} {y : Rg} (h : y ∈ hole a b) : y = (a, b) ∧ a < b := by
  unfold hole at h
  split at h
  · exact ⟨List.mem_singleton.1 h, by assumption⟩
  · simp at h
theorem cut_mem {p : Int} {x y : Rg} (h : y ∈ cutB p x) : x.1 ≤ y.1 ∧ p < y.1 ∧ y.1 < y.2 ∧ y.2 = x.2 := by
  obtain ⟨rfl, hlt⟩ := hole_mem h
  dsimp only
  by_cases hc : x.1 < p + 1
  · rw [if_pos hc] at hlt ⊢
    omega
  · rw [if_neg hc] at hlt ⊢
    omega
theorem hole_pw (a b : Int) : Pw (hole a b) := by
  unfold hole
  split
  · exact List.pairwise_singleton _ _
  · exact List.Pairwise.nil
theorem cut_pw (p : Int) (x : Rg) : Pw (cutB p x) := hole_pw _ _
theorem bey_pw (p : Int) : ∀ l : List Rg, Pw l → Pw (beyF p l)
  | [], _ => List.Pairwise.nil
  | x :: l, h => by
    have h2 := List.pairwise_cons.1 h
    refine List.pairwise_append.2 ⟨cut_pw p x, bey_pw p l h2.2, fun a ha b hb => ?_⟩
    have h3 := cut_mem ha
    rw [beyF_flat] at hb
    obtain ⟨y, hy, hb⟩ := List.mem_flatMap.1 hb
    have h4 := cut_mem hb
    have h5 := h2.1 y hy
    omega
theorem bd_pw {u n : Int} {l : List Rg} (h : bdP u n l) : Pw l := pw_of_apart l (fun x hx => (h.2.2.2.2.1 x hx).2.1) h.2.2.2.2.2
/-- A board that sends on is right. -/
theorem bd_grow {u n k : Int} {l : List Rg} (h : bdP u n l) (h1 : 1 ≤ k) (h2 : k ≤ 1000000000 - n) : bdP u (n + k) l :=
  ⟨h.1, by have := h.2.1; omega, by omega, h.2.2.2.1, fun x hx => by have h3 := h.2.2.2.2.1 x hx; exact ⟨h3.1, h3.2.1, by have := h3.2.2; omega⟩, h.2.2.2.2.2⟩
/-- A board behind an ack is right. -/
theorem bd_acked {u n k : Int} {l : List Rg} (h : bdP u n l) (h1 : u ≤ k) (h2 : k ≤ n) : bdP k n (beyF k l) := by
  refine ⟨by have := h.1; omega, h2, h.2.2.1, Nat.le_trans (beyF_len k l) h.2.2.2.1, fun y hy => ?_, apart_of_pw _ (bey_pw k l (bd_pw h))⟩
  rw [beyF_flat] at hy
  obtain ⟨x, hx, hy⟩ := List.mem_flatMap.1 hy
  have h3 := cut_mem hy
  have h4 := h.2.2.2.2.1 x hx
  exact ⟨by omega, by omega, by have := h4.2.2; omega⟩
/-- Is a place in one of the ranges? -/
def inL (l : List Rg) (p : Int) : Bool := l.any fun x => decide (x.1 ≤ p ∧ p < x.2)
theorem inL_iff {l : List Rg} {p : Int} : inL l p = true ↔ ∃ x ∈ l, x.1 ≤ p ∧ p < x.2 := by simp [inL]
theorem inL_bey {k p : Int} {l : List Rg} (h : k < p) : inL (beyF k l) p = inL l p := by
  rw [Bool.eq_iff_iff, inL_iff, inL_iff, beyF_flat]
  constructor
  · rintro ⟨y, hy, h1, h2⟩
    obtain ⟨x, hx, hy⟩ := List.mem_flatMap.1 hy
    have h3 := cut_mem hy
    exact ⟨x, hx, by omega, by omega⟩
  · rintro ⟨x, hx, h1, h2⟩
    by_cases hc : x.1 < k + 1
    · refine ⟨(k + 1, x.2), List.mem_flatMap.2 ⟨x, hx, ?_⟩, by dsimp only; omega, h2⟩
      unfold cutB hole
      rw [if_pos hc, if_pos (by omega)]
      simp
    · refine ⟨(x.1, x.2), List.mem_flatMap.2 ⟨x, hx, ?_⟩, h1, h2⟩
      unfold cutB hole
      rw [if_neg hc, if_pos (by omega)]
      simp
theorem sumR_pos : ∀ l : List Rg, (∀ x ∈ l, x.1 ≤ x.2) → 0 ≤ sumR l
  | [], _ => by simp [sumR]
  | x :: l, h => by
    have h1 := sumR_pos l (fun y hy => h y (List.mem_cons_of_mem _ hy))
    have h2 := h x (by simp)
    show 0 ≤ (x.2 - x.1) + sumR l
    omega
/-- What sending does to a board, when it may be. -/
theorem sent_facts {u n k U N : Int} {l L : List Rg} (h : sentL u n l k = (U, N, L, true)) : bdOk U N L = true ∧ flightL U N L = flightL u n l + k ∧ U = u := by
  unfold sentL at h
  split at h
  · rename_i hc
    simp only [Prod.mk.injEq, and_true] at h
    obtain ⟨rfl, rfl, rfl⟩ := h
    have hb := bd_of hc.1
    have hb2 := bd_yes (bd_grow hb hc.2.1 hc.2.2)
    refine ⟨hb2, ?_, rfl⟩
    unfold flightL
    rw [if_pos hb2, if_pos hc.1]
    omega
  · simp at h
/-- What an ack does to a board, when it may be. -/
theorem ack_facts {u n k U N : Int} {l L : List Rg} (h : ackL u n l k = (U, N, L, true)) : bdOk U N L = true ∧ U = k ∧ N = n ∧ (∀ p, k < p → inL L p = inL l p) ∧ flightL U N L ≤ n - k := by
  unfold ackL at h
  split at h
  · rename_i hc
    simp only [Prod.mk.injEq, and_true] at h
    obtain ⟨rfl, rfl, rfl⟩ := h
    have hb := bd_of hc.1
    have hp := bd_acked hb hc.2.1 hc.2.2
    have hb2 := bd_yes hp
    refine ⟨hb2, rfl, rfl, fun p h => inL_bey h, ?_⟩
    unfold flightL
    rw [if_pos hb2]
    have := sumR_pos (beyF k l) (fun x hx => by have := (hp.2.2.2.2.1 x hx).2.1; omega)
    omega
  · simp at h

end Go.Proofs.Ytedgfiagefhahaa
