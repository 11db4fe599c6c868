/- Samples added one by one: the best of a filter is the best of what was taken and is not too old. Lists alone. -/
import Derived.Test.YtljmllmkmjamoaaFl
namespace Go.Proofs.Ytljmllmkmjamoaa
open Go.RowKit

def mxF (c : Int) (l : List Rg) : Int := l.foldl (fun b o => if c < o.1 then max b o.2 else b) 0

theorem mxF_snoc (c : Int) (l : List Rg) (o : Rg) : mxF c (l ++ [o]) = if c < o.1 then max (mxF c l) o.2 else mxF c l := by
  simp [mxF, List.foldl_append]

theorem mxF_next (c : Int) (l : List Rg) (j : Nat) (h : j < l.length) : mxF c (l.take (j + 1)) = if c < (l[j]).1 then max (mxF c (l.take j)) (l[j]).2 else mxF c (l.take j) := by
  rw [List.take_succ_eq_append_getElem h, mxF_snoc]

theorem fold_ge (c : Int) : ∀ (l : List Rg) (b : Int), b ≤ l.foldl (fun b o => if c < o.1 then max b o.2 else b) b
  | [], b => Int.le_refl _
  | o :: l, b => by
    have h := fold_ge c l (if c < o.1 then max b o.2 else b)
    rw [List.foldl_cons]
    refine Int.le_trans ?_ h
    split <;> omega

theorem fold_mem (c : Int) : ∀ (l : List Rg) (b : Int) (o : Rg), o ∈ l → c < o.1 → o.2 ≤ l.foldl (fun b o => if c < o.1 then max b o.2 else b) b
  | [], _, _, h, _ => by simp at h
  | p :: l, b, o, h, g => by
    rw [List.foldl_cons]
    rcases List.mem_cons.mp h with rfl | h
    · refine Int.le_trans ?_ (fold_ge c l _)
      rw [if_pos g]; omega
    · exact fold_mem c l _ o h g

theorem fold_le (c m : Int) : ∀ (l : List Rg) (b : Int), b ≤ m → (∀ o ∈ l, c < o.1 → o.2 ≤ m) → l.foldl (fun b o => if c < o.1 then max b o.2 else b) b ≤ m
  | [], _, h, _ => h
  | o :: l, b, h, k => by
    rw [List.foldl_cons]
    refine fold_le c m l _ ?_ (fun y hy => k y (List.mem_cons_of_mem _ hy))
    split
    · rename_i g
      have := k o (List.mem_cons_self ..) g
      omega
    · exact h

/-- What a filter keeps of what was taken. -/
def Kept (w : Int) (now taken : List Rg) : Prop :=
  (∀ o ∈ now, o ∈ taken) ∧ ∀ o ∈ taken, (∃ n ∈ now, o.1 ≤ n.1 ∧ o.2 ≤ n.2) ∨ (∀ y : Rg, lastOk now y → o.1 ≤ y.1 - w)

theorem kept_nil (w : Int) : Kept w [] [] := ⟨by simp, by simp⟩

theorem time_le {l : List Rg} {x o : Rg} (h : flP l) (k : lastOk l x) (ho : o ∈ l) : o.1 ≤ x.1 := by
  obtain ⟨i, hi, rfl⟩ := List.getElem_of_mem ho
  have hl := k (l.length - 1) (by omega) (by omega)
  by_cases e : i = l.length - 1
  · subst e; exact hl
  · have := List.pairwise_iff_getElem.mp h.2.2 i (l.length - 1) hi (by omega) (by omega)
    exact Int.le_trans this.1 hl

theorem last_snoc {l : List Rg} {x y : Rg} {w : Int} (h : lastOk (addF l x w) y) : x.1 ≤ y.1 := by
  have hl : (addF l x w).length = (l.filter (keepF x w)).length + 1 := by simp [addF]
  have h2 : (addF l x w)[(l.filter (keepF x w)).length]? = some x := by
    rw [addF, List.getElem?_append_right (Nat.le_refl _)]
    simp
  have hk := h (l.filter (keepF x w)).length (by omega) (by omega)
  rw [List.getElem?_eq_getElem (by omega)] at h2
  simp only [Option.some.injEq] at h2
  rw [h2] at hk
  exact hk

theorem kept_add {w : Int} {now taken : List Rg} {x : Rg} (h : Kept w now taken) (hp : addP now x w) : Kept w (addF now x w) (taken ++ [x]) ∧ bestF (addF now x w) = mxF (x.1 - w) (taken ++ [x]) := by
  obtain ⟨h1, h2⟩ := h
  have hx := hp.2.1
  refine ⟨⟨?_, ?_⟩, ?_⟩
  · intro o ho
    rcases List.mem_append.mp ho with ho | ho
    · exact List.mem_append.mpr (.inl (h1 o (List.mem_filter.mp ho).1))
    · exact List.mem_append.mpr (.inr ho)
  · intro o ho
    rcases List.mem_append.mp ho with ho | ho
    · rcases h2 o ho with ⟨n, hn, hn1, hn2⟩ | hexp
      · by_cases hk : keepF x w n = true
        · exact .inl ⟨n, List.mem_append.mpr (.inl (List.mem_filter.mpr ⟨hn, hk⟩)), hn1, hn2⟩
        · have hn3 := time_le hp.1 hp.2.2.2.2.1 hn
          by_cases hr : n.2 ≤ x.2
          · exact .inl ⟨x, List.mem_append.mpr (.inr (List.mem_singleton.mpr rfl)), Int.le_trans hn1 hn3, Int.le_trans hn2 hr⟩
          · refine .inr fun y hy => ?_
            have hy1 := last_snoc hy
            simp only [keepF, Bool.and_eq_true, decide_eq_true_eq, not_and] at hk
            have := hk (by omega)
            omega
      · refine .inr fun y hy => ?_
        have hy1 := last_snoc hy
        have := hexp x hp.2.2.2.2.1
        omega
    · obtain rfl := List.mem_singleton.mp ho
      exact .inl ⟨_, List.mem_append.mpr (.inr (List.mem_singleton.mpr rfl)), Int.le_refl _, Int.le_refl _⟩
  · rw [best_max hp]
    refine Int.le_antisymm ?_ ?_
    · refine maxT_le x w _ now ?_ ?_
      · exact fold_mem _ _ _ x (List.mem_append.mpr (.inr (List.mem_singleton.mpr rfl))) (by have := hp.2.2.1; omega)
      · intro o ho g
        exact fold_mem _ _ _ o (List.mem_append.mpr (.inl (h1 o ho))) g
    · refine fold_le _ _ _ _ (Int.le_trans hx.2.2.1 (maxT_ge x w now)) ?_
      intro o ho g
      rcases List.mem_append.mp ho with ho | ho
      · rcases h2 o ho with ⟨n, hn, hn1, hn2⟩ | hexp
        · exact Int.le_trans hn2 (maxT_mem x w now n hn (by omega))
        · have := hexp x hp.2.2.2.2.1
          omega
      · obtain rfl := List.mem_singleton.mp ho
        exact maxT_ge _ w now

end Go.Proofs.Ytljmllmkmjamoaa
