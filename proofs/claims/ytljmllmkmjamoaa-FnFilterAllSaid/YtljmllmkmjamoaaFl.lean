/- Filters: which are right, what is added, the best of one: lists alone. -/
import Derived.Test.YtljmllmkmjamoaaSm
namespace Go.Proofs.Ytljmllmkmjamoaa
open Go.RowKit

def smP (x : Rg) : Prop := 0 ≤ x.1 ∧ x.1 ≤ 1000000000000 ∧ 0 ≤ x.2 ∧ x.2 ≤ 1000000000
instance (x : Rg) : Decidable (smP x) := by unfold smP; infer_instance
def smR (p x : Rg) : Prop := p.1 ≤ x.1 ∧ x.2 < p.2
instance (p x : Rg) : Decidable (smR p x) := by unfold smR; infer_instance
def flP (l : List Rg) : Prop := l.length ≤ 100 ∧ (∀ x ∈ l, smP x) ∧ l.Pairwise smR
instance (l : List Rg) : Decidable (flP l) := by unfold flP; infer_instance
def flOk (l : List Rg) : Bool := decide (flP l)
def FlTo (l : List Rg) (j : Nat) : Prop := (∀ x ∈ l.take j, smP x) ∧ (l.take j).Pairwise smR
theorem fl_yes {l : List Rg} (h : flP l) : flOk l = true := decide_eq_true h
theorem fl_no {l : List Rg} (h : ¬ flP l) : flOk l = false := decide_eq_false h
theorem fl_of {l : List Rg} (h : flOk l = true) : flP l := of_decide_eq_true h
theorem fl_not {l : List Rg} (h : flOk l = false) : ¬ flP l := of_decide_eq_false h
theorem fl_zero (l : List Rg) : FlTo l 0 := by simp [FlTo]
theorem fl_next {l : List Rg} {j : Nat} (h : j < l.length) (ht : FlTo l j) (hx : smP l[j]) (hr : ∀ k (e : j = k + 1), smR (l[k]'(by omega)) l[j]) : FlTo l (j + 1) := by
  obtain ⟨h1, h2⟩ := ht
  refine ⟨all_next l j h h1 hx, ?_⟩
  rw [List.take_succ_eq_append_getElem h, List.pairwise_append]
  refine ⟨h2, List.pairwise_singleton _ _, fun a ha b hb => ?_⟩
  obtain rfl := List.mem_singleton.mp hb
  obtain ⟨i, hi, rfl⟩ := List.getElem_of_mem ha
  rw [List.length_take] at hi
  obtain ⟨k, rfl⟩ : ∃ k, j = k + 1 := ⟨j - 1, by omega⟩
  have hk := hr k rfl
  rw [List.getElem_take]
  by_cases e : i = k
  · subst e; exact hk
  · have := List.pairwise_iff_getElem.mp h2 i k (by rw [List.length_take]; omega) (by rw [List.length_take]; omega) (by omega)
    rw [List.getElem_take, List.getElem_take] at this
    exact ⟨Int.le_trans this.1 hk.1, Int.lt_trans hk.2 this.2⟩
theorem fl_end {l : List Rg} (h : FlTo l l.length) (hl : l.length ≤ 100) : flP l := by
  unfold FlTo at h
  rw [List.take_length] at h
  exact ⟨hl, h.1, h.2⟩
theorem fl_bad1 {l : List Rg} {j : Nat} (h : j < l.length) (hn : ¬ smP l[j]) : ¬ flP l := fun hp => hn (hp.2.1 _ (List.getElem_mem h))
theorem fl_bad2 {l : List Rg} {k : Nat} (h : k + 1 < l.length) (hn : ¬ smR (l[k]'(by omega)) l[k + 1]) : ¬ flP l := fun hp => hn (List.pairwise_iff_getElem.mp hp.2.2 k (k + 1) (by omega) h (by omega))
def keepF (x : Rg) (w : Int) (o : Rg) : Bool := decide (x.2 < o.2) && decide (x.1 - w < o.1)
def addF (l : List Rg) (x : Rg) (w : Int) : List Rg := l.filter (keepF x w) ++ [x]
def lastOk (l : List Rg) (x : Rg) : Prop := ∀ k (h : k < l.length), k + 1 = l.length → (l[k]).1 ≤ x.1
def addP (l : List Rg) (x : Rg) (w : Int) : Prop := flP l ∧ smP x ∧ 1 ≤ w ∧ w ≤ 1000000000000 ∧ lastOk l x ∧ flP (addF l x w)
noncomputable def addOk (l : List Rg) (x : Rg) (w : Int) : Bool := @decide (addP l x w) (Classical.propDecidable _)
noncomputable def addL (l : List Rg) (x : Rg) (w : Int) : List Rg := if addOk l x w = true then addF l x w else []
theorem addOk_of {l : List Rg} {x : Rg} {w : Int} (h : addOk l x w = true) : addP l x w := by simpa [addOk] using h
theorem addOk_yes {l : List Rg} {x : Rg} {w : Int} (h : addP l x w) : addOk l x w = true := by simpa [addOk] using h
theorem addOk_no {l : List Rg} {x : Rg} {w : Int} (h : ¬ addP l x w) : addOk l x w = false := by simpa [addOk] using h
theorem addL_no {l : List Rg} {x : Rg} {w : Int} (h : ¬ addP l x w) : addL l x w = [] := by rw [addL, addOk_no h]; rfl
theorem addL_yes {l : List Rg} {x : Rg} {w : Int} (h : addP l x w) : addL l x w = addF l x w := by rw [addL, addOk_yes h]; rfl
theorem addF_len (l : List Rg) (x : Rg) (w : Int) : (addF l x w).length ≤ l.length + 1 := by
  have := List.length_filter_le (keepF x w) l
  simp [addF]; omega
theorem addL_len (l : List Rg) (x : Rg) (w : Int) : (addL l x w).length ≤ 100 := by
  by_cases h : addP l x w
  · rw [addL_yes h]; exact h.2.2.2.2.2.1
  · rw [addL_no h]; simp
def bestF : List Rg → Int
  | [] => -1
  | x :: l => if flOk (x :: l) = true then x.2 else -1
theorem bestF_no {l : List Rg} (h : ¬ flP l) : bestF l = -1 := by
  cases l with
  | nil => rfl
  | cons x l => rw [bestF, fl_no h]; rfl
theorem bestF_yes {l : List Rg} (h : flP l) (h0 : 0 < l.length) : bestF l = (l[0]).2 := by
  cases l with
  | nil => simp at h0
  | cons x l => rw [bestF, fl_yes h]; rfl
/-- A sample that is added twice is added once. -/
theorem add_twice {l : List Rg} {x : Rg} {w : Int} (h : addP l x w) : addF (addF l x w) x w = addF l x w ∧ addP (addF l x w) x w := by
  have e : addF (addF l x w) x w = addF l x w := by
    have hx : keepF x w x = false := by simp [keepF]
    simp [addF, List.filter_append, hx, List.filter_filter]
  refine ⟨e, h.2.2.2.2.2, h.2.1, h.2.2.1, h.2.2.2.1, fun k hk hk2 => ?_, by rw [e]; exact h.2.2.2.2.2⟩
  have hl : (addF l x w).length = (l.filter (keepF x w)).length + 1 := by simp [addF]
  have h2 : (addF l x w)[k]? = some x := by
    rw [show k = (l.filter (keepF x w)).length from by omega, addF, List.getElem?_append_right (Nat.le_refl _)]
    simp
  have : (addF l x w)[k] = x := by
    rw [List.getElem?_eq_getElem hk] at h2
    simpa using h2
  rw [this]
  exact Int.le_refl _
def maxT (x : Rg) (w : Int) : List Rg → Int
  | [] => x.2
  | o :: l => if x.1 - w < o.1 then max o.2 (maxT x w l) else maxT x w l
theorem maxT_ge (x : Rg) (w : Int) : ∀ l : List Rg, x.2 ≤ maxT x w l
  | [] => Int.le_refl _
  | o :: l => by
    have := maxT_ge x w l
    rw [maxT]
    split <;> omega
theorem maxT_small (x : Rg) (w : Int) : ∀ l : List Rg, (∀ o ∈ l, x.1 - w < o.1 → o.2 ≤ x.2) → maxT x w l = x.2
  | [], _ => rfl
  | o :: l, h => by
    have h1 := maxT_small x w l (fun y hy => h y (List.mem_cons_of_mem _ hy))
    rw [maxT, h1]
    split
    · rename_i g
      have := h o (List.mem_cons_self ..) g
      omega
    · rfl
theorem maxT_le (x : Rg) (w b : Int) : ∀ l : List Rg, x.2 ≤ b → (∀ o ∈ l, x.1 - w < o.1 → o.2 ≤ b) → maxT x w l ≤ b
  | [], h, _ => h
  | o :: l, h, k => by
    have h1 := maxT_le x w b l h (fun y hy => k y (List.mem_cons_of_mem _ hy))
    rw [maxT]
    split
    · rename_i g
      have := k o (List.mem_cons_self ..) g
      omega
    · exact h1
theorem maxT_mem (x : Rg) (w : Int) : ∀ l : List Rg, ∀ o ∈ l, x.1 - w < o.1 → o.2 ≤ maxT x w l
  | [], o, h, _ => by simp at h
  | p :: l, o, h, g => by
    rw [maxT]
    rcases List.mem_cons.mp h with rfl | h
    · rw [if_pos g]; omega
    · have := maxT_mem x w l o h g
      split <;> omega
theorem maxT_snoc (x : Rg) (w : Int) (o : Rg) : ∀ l : List Rg, maxT x w (l ++ [o]) = if x.1 - w < o.1 then max (maxT x w l) o.2 else maxT x w l
  | [] => by simp only [List.nil_append, maxT]; split <;> omega
  | p :: l => by
    rw [List.cons_append, maxT, maxT_snoc x w o l, maxT]
    split <;> split <;> omega
/-- The best of a filter is the greatest of what was there and is not too old, and of what is added. -/
theorem best_max {l : List Rg} {x : Rg} {w : Int} (h : addP l x w) : bestF (addF l x w) = maxT x w l := by
  have hf := h.2.2.2.2.2
  rw [bestF_yes hf (by simp [addF])]
  have hp := h.1.2.2
  obtain ⟨q, hc⟩ : ∃ q, l.filter (keepF x w) = q := ⟨_, rfl⟩
  cases q with
  | nil =>
    have e : (addF l x w)[0]? = some x := by simp [addF, hc]
    rw [List.getElem?_eq_getElem (by simp [addF])] at e
    simp only [Option.some.injEq] at e
    rw [e, maxT_small]
    intro o ho g
    have := List.filter_eq_nil_iff.mp hc o ho
    simp [keepF] at this
    omega
  | cons f m =>
    have e : (addF l x w)[0]? = some f := by simp [addF, hc]
    rw [List.getElem?_eq_getElem (by simp [addF])] at e
    simp only [Option.some.injEq] at e
    rw [e]
    have hm : f ∈ l.filter (keepF x w) := by rw [hc]; exact List.mem_cons_self ..
    obtain ⟨hfl, hk⟩ := List.mem_filter.mp hm
    have hpp := hp.filter (keepF x w)
    rw [hc] at hpp
    simp only [keepF, Bool.and_eq_true, decide_eq_true_eq] at hk
    have h1 := maxT_mem x w l f hfl hk.2
    have h2 := maxT_le x w f.2 l (by omega) (fun o ho g => by
      by_cases hb : x.2 < o.2
      · have ho' : o ∈ l.filter (keepF x w) := List.mem_filter.mpr ⟨ho, by simp [keepF]; omega⟩
        rw [hc] at ho'
        rcases List.mem_cons.mp ho' with rfl | ho'
        · exact Int.le_refl _
        · have := (List.pairwise_cons.mp hpp).1 o ho'
          have := this.2
          omega
      · omega)
    omega

end Go.Proofs.Ytljmllmkmjamoaa
