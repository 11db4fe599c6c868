/- Boards: what is told to be there, as places. Lists alone. -/
import Derived.Test.YtedgfiagefhahaaBdA
namespace Go.Proofs.Ytedgfiagefhahaa
open Go.RowKit

theorem inL_cons (x : Rg) (l : List Rg) (q : Int) : inL (x :: l) q = (decide (x.1 ≤ q ∧ q < x.2) || inL l q) := by simp [inL]
theorem inL_nil (q : Int) : inL [] q = false := rfl
theorem gdR_below {x : Rg} {l : List Rg} (h : GdR (x :: l)) {q : Int} (hq : inL l q = true) : x.2 < q := by
  obtain ⟨y, hy, h1, _⟩ := inL_iff.1 hq
  have := (gdR_cons h).2.1 y hy
  omega
/-- How many of the k places from a on are in one of the ranges. -/
def cntL (l : List Rg) (a : Int) : Nat → Int
  | 0 => 0
  | k + 1 => cntL l a k + (if inL l (a + k) = true then 1 else 0)
theorem cnt_nil (a : Int) : ∀ k, cntL [] a k = 0
  | 0 => rfl
  | k + 1 => by rw [cntL, cnt_nil a k, inL_nil]; rfl
theorem cnt_cons {x : Rg} {l : List Rg} (h : GdR (x :: l)) (a : Int) : ∀ k, cntL (x :: l) a k = cntL [x] a k + cntL l a k
  | 0 => rfl
  | k + 1 => by
    rw [cntL, cntL, cntL, cnt_cons h a k, inL_cons x l, inL_cons x [], inL_nil]
    cases h1 : inL l (a + k)
    · simp; omega
    · have h2 := gdR_below h h1
      have h3 : decide (x.1 ≤ a + k ∧ a + k < x.2) = false := decide_eq_false (by omega)
      rw [h3]
      simp; omega
def clip (a b : Int) : Int := max 0 (b - a)
theorem cnt_one (x : Rg) (h : x.1 < x.2) (a : Int) : ∀ k : Nat, cntL [x] a k = clip (max x.1 a) (min x.2 (a + k))
  | 0 => by
    rw [cntL, clip]
    omega
  | k + 1 => by
    rw [cntL, cnt_one x h a k, inL_cons, inL_nil, Bool.or_false]
    unfold clip
    by_cases h1 : x.1 ≤ a + k ∧ a + k < x.2
    · rw [decide_eq_true h1, if_pos rfl]
      omega
    · rw [decide_eq_false h1]
      simp only [Bool.false_eq_true, if_false]
      omega
theorem many_cnt (p : Int) (k : Nat) : ∀ l : List Rg, GdR l → (∀ x ∈ l, x.2 ≤ p + k) → manyR p l = cntL l p k
  | [], _, _ => by rw [cnt_nil, manyR]
  | x :: l, h, hk => by
    have h1 := gdR_cons h
    rw [cnt_cons h, manyR, many_cnt p k l h1.1 (fun y hy => hk y (List.mem_cons_of_mem _ hy)), cnt_one x h1.2.2]
    have h2 := hk x (List.mem_cons_self ..)
    unfold cutR clip
    repeat' split
    all_goals omega
theorem cnt_mono {l m : List Rg} (h : ∀ q, inL l q = true → inL m q = true) (a : Int) : ∀ k, cntL l a k ≤ cntL m a k
  | 0 => Int.le_refl _
  | k + 1 => by
    have h1 := cnt_mono h a k
    have h2 := h (a + k)
    rw [cntL, cntL]
    cases h3 : inL l (a + k)
    · simp
      split <;> omega
    · rw [h2 h3]
      omega
theorem many_anti {p q : Int} (h : p ≤ q) : ∀ l : List Rg, manyR q l ≤ manyR p l
  | [] => Int.le_refl _
  | x :: l => by
    have h1 := many_anti h l
    rw [manyR, manyR]
    unfold cutR
    repeat' split
    all_goals omega
theorem merge_in : ∀ (l : List Rg) (x : Rg) (q : Int), GdR l → (∀ z ∈ l, x.1 ≤ z.2) → x.1 < x.2 → inL (mergeR l x) q = (inL l q || decide (x.1 ≤ q ∧ q < x.2))
  | [], x, q, _, _, _ => by rw [mergeR, inL_cons, inL_nil, Bool.or_comm]
  | p :: l, x, q, hg, hz, hx => by
    obtain ⟨g1, g2, g3⟩ := gdR_cons hg
    have h0 := hz p (by simp)
    rw [mergeR]
    split
    · have e1 : (overR p x).1 = min p.1 x.1 := rfl
      have e2 : (overR p x).2 = max p.2 x.2 := rfl
      rw [merge_in l (overR p x) q g1 (fun z hz' => by have := g2 z hz'; have := g1.2 z hz'; omega) (by omega), inL_cons, e1, e2]
      cases inL l q
      · rw [Bool.or_false, Bool.false_or, Bool.eq_iff_iff]
        simp
        omega
      · simp
    · rw [inL_cons, inL_cons]
      cases inL l q <;> cases decide (p.1 ≤ q ∧ q < p.2) <;> cases decide (x.1 ≤ q ∧ q < x.2) <;> rfl
theorem with_in : ∀ (l : List Rg) (x : Rg) (q : Int), GdR l → x.1 < x.2 → inL (withL l x) q = (inL l q || decide (x.1 ≤ q ∧ q < x.2))
  | [], x, q, _, _ => by rw [withL, inL_cons, inL_nil, Bool.or_comm]
  | p :: l, x, q, hg, hx => by
    obtain ⟨g1, g2, g3⟩ := gdR_cons hg
    rw [withL]
    split
    · rw [inL_cons, inL_cons, with_in l x q g1 hx, Bool.or_assoc]
    · refine merge_in (p :: l) x q hg (fun z hz => ?_) hx
      rcases List.mem_cons.mp hz with rfl | hz
      · omega
      · have := g2 z hz; have := g1.2 z hz; omega
theorem merge_high (B : Int) : ∀ (l : List Rg) (x : Rg), (∀ z ∈ l, z.2 ≤ B) → x.2 ≤ B → ∀ z ∈ mergeR l x, z.2 ≤ B
  | [], x, _, h, z, hz => by simp [mergeR] at hz; rw [hz]; exact h
  | p :: l, x, hl, h, z, hz => by
    rw [mergeR] at hz
    have := hl p (by simp)
    split at hz
    · exact merge_high B l _ (fun z hz => hl z (List.mem_cons_of_mem _ hz)) (by show max p.2 x.2 ≤ B; omega) z hz
    · rcases List.mem_cons.mp hz with rfl | hz
      · exact h
      · exact hl z hz
theorem with_high (B : Int) : ∀ (l : List Rg) (x : Rg), (∀ z ∈ l, z.2 ≤ B) → x.2 ≤ B → ∀ z ∈ withL l x, z.2 ≤ B
  | [], x, _, h, z, hz => by simp [withL] at hz; rw [hz]; exact h
  | p :: l, x, hl, h, z, hz => by
    rw [withL] at hz
    split at hz
    · rcases List.mem_cons.mp hz with rfl | hz
      · exact hl z (by simp)
      · exact with_high B l x (fun z hz => hl z (List.mem_cons_of_mem _ hz)) h z hz
    · exact merge_high B (p :: l) x hl h z hz
/-- Which places are told by a list of ranges, of those that may be. -/
def toldL (u n : Int) (m : List Rg) (q : Int) : Bool := m.any fun x => decide (rg1 u n x ∧ x.1 ≤ q ∧ q < x.2)
theorem sackF_in (u n : Int) (q : Int) : ∀ (m t : List Rg), GdR t → inL (sackF u n t m) q = (inL t q || toldL u n m q)
  | [], t, _ => by rw [sackF, toldL, List.any_nil, Bool.or_false]
  | x :: m, t, h => by
    rw [sackF, toldL, List.any_cons]
    by_cases hx : rg1 u n x
    · rw [if_pos hx, sackF_in u n q m _ (with_good t x h hx.2.1), with_in t x q h hx.2.1, Bool.or_assoc]
      simp [hx, toldL]
    · rw [if_neg hx, sackF_in u n q m t h]
      simp [hx, toldL]
theorem sackF_rg (u n : Int) : ∀ (m t : List Rg), GdR t → (∀ z ∈ t, rg1 u n z) → ∀ z ∈ sackF u n t m, rg1 u n z
  | [], t, _, h => h
  | x :: m, t, hg, h => by
    rw [sackF]
    by_cases hx : rg1 u n x
    · rw [if_pos hx]
      have h1 := with_good t x hg hx.2.1
      exact sackF_rg u n m _ h1 (fun z hz => ⟨with_low u t x (fun z hz => (h z hz).1) hx.1 z hz, h1.2 z hz, with_high n t x (fun z hz => (h z hz).2.2) hx.2.2 z hz⟩)
    · rw [if_neg hx]
      exact sackF_rg u n m t hg h
theorem sackF_app (u n : Int) : ∀ (m k t : List Rg), sackF u n t (m ++ k) = sackF u n (sackF u n t m) k
  | [], k, t => rfl
  | x :: m, k, t => by rw [List.cons_append, sackF, sackF, sackF_app u n m k]
/-- Two rows of ranges that part from each other, and hold the same places, are one. -/
theorem gd_eq : ∀ (l m : List Rg), GdR l → GdR m → (∀ q, inL l q = inL m q) → l = m
  | [], [], _, _, _ => rfl
  | [], y :: m, _, hm, h => by
    have h1 := h y.1
    have h2 := (gdR_cons hm).2.2
    rw [inL_nil, inL_cons, decide_eq_true (by omega)] at h1
    simp at h1
  | x :: l, [], hl, _, h => by
    have h1 := h x.1
    have h2 := (gdR_cons hl).2.2
    rw [inL_nil, inL_cons, decide_eq_true (by omega)] at h1
    simp at h1
  | x :: l, y :: m, hl, hm, h => by
    obtain ⟨l1, l2, l3⟩ := gdR_cons hl
    obtain ⟨m1, m2, m3⟩ := gdR_cons hm
    have hin : ∀ {z : Rg} {t : List Rg} {q : Int}, GdR (z :: t) → inL (z :: t) q = true → z.1 ≤ q := by
      intro z t q hg hq
      rw [inL_cons, Bool.or_eq_true] at hq
      rcases hq with hq | hq
      · have := of_decide_eq_true hq; omega
      · have := gdR_below hg hq; have := (gdR_cons hg).2.2; omega
    have e1 : x.1 = y.1 := by
      have a1 : y.1 ≤ x.1 := hin hm (by rw [← h, inL_cons, decide_eq_true (by omega), Bool.true_or])
      have a2 : x.1 ≤ y.1 := hin hl (by rw [h, inL_cons, decide_eq_true (by omega), Bool.true_or])
      omega
    have hout : ∀ {z : Rg} {t : List Rg}, GdR (z :: t) → inL (z :: t) z.2 = false := by
      intro z t hg
      rw [inL_cons, decide_eq_false (by omega), Bool.false_or]
      cases hq : inL t z.2
      · rfl
      · have := gdR_below hg hq; omega
    have e2 : x.2 = y.2 := by
      have a1 := hout hl
      have a2 := hout hm
      rw [h, inL_cons, Bool.or_eq_false_iff] at a1
      rw [← h, inL_cons, Bool.or_eq_false_iff] at a2
      have b1 := of_decide_eq_false a1.1
      have b2 := of_decide_eq_false a2.1
      omega
    have e : x = y := Prod.ext e1 e2
    subst e
    rw [gd_eq l m l1 m1 (fun q => ?_)]
    have h1 := h q
    rw [inL_cons, inL_cons] at h1
    cases hq : decide (x.1 ≤ q ∧ q < x.2)
    · rw [hq, Bool.false_or, Bool.false_or] at h1
      exact h1
    · have hq := of_decide_eq_true hq
      have c1 : inL l q = false := by
        cases hc : inL l q
        · rfl
        · have := gdR_below hl hc; omega
      have c2 : inL m q = false := by
        cases hc : inL m q
        · rfl
        · have := gdR_below hm hc; omega
      rw [c1, c2]
theorem sum_cnt {u n : Int} {l : List Rg} (h : bdP u n l) : sumR l = cntL l u (n - u).toNat := by
  have h1 := h.2.1
  rw [← many_sum u n l h.2.2.2.2.1]
  exact many_cnt u _ l (bdP_good h) (fun x hx => by have := (h.2.2.2.2.1 x hx).2.2; omega)
theorem flight_cnt {u n : Int} {l : List Rg} (h : bdP u n l) : flightL u n l = n - u - cntL l u (n - u).toNat := by
  unfold flightL
  rw [if_pos (bd_yes h), sum_cnt h]
/-- What is told to be there, when it may be told. -/
theorem sack_facts {u n U N : Int} {l ms L : List Rg} (h : sackL u n l ms = (U, N, L, true)) : bdP u n l ∧ ms.length ≤ 3 ∧ bdP u n L ∧ U = u ∧ N = n ∧ L = sackF u n l ms ∧ (∀ q, inL L q = (inL l q || toldL u n ms q)) ∧ flightL u n L ≤ flightL u n l := by
  unfold sackL at h
  split at h
  · rename_i hc
    simp only [Prod.mk.injEq, and_true] at h
    obtain ⟨rfl, rfl, rfl⟩ := h
    have h1 := bd_of hc.1
    have h2 := bd_of hc.2.2
    have h3 : ∀ q, inL (sackF u n l ms) q = (inL l q || toldL u n ms q) := fun q => sackF_in u n q ms l (bdP_good h1)
    refine ⟨h1, hc.2.1, h2, rfl, rfl, rfl, h3, ?_⟩
    rw [flight_cnt h1, flight_cnt h2]
    have := cnt_mono (l := l) (m := sackF u n l ms) (fun q hq => by rw [h3, hq, Bool.true_or]) u (n - u).toNat
    omega
  · simp [noBd] at h
/-- Told again it changes nothing. -/
theorem sack_again {u n : Int} {l ms L : List Rg} (h : sackL u n l ms = (u, n, L, true)) : sackL u n L ms = (u, n, L, true) := by
  obtain ⟨h1, h2, h3, _, _, rfl, h4, _⟩ := sack_facts h
  have e : sackF u n (sackF u n l ms) ms = sackF u n l ms := by
    refine gd_eq _ _ (sackF_good u n ms _ (bdP_good h3)) (bdP_good h3) (fun q => ?_)
    rw [sackF_in u n q ms _ (bdP_good h3), h4]
    cases inL l q <;> cases toldL u n ms q <;> rfl
  rw [sackL_yes ⟨bd_yes h3, h2, by rw [e]; exact bd_yes h3⟩, e]
theorem sackF_bd {u n : Int} {l : List Rg} (h : bdP u n l) (ms : List Rg) (hl : l.length + ms.length ≤ 40) : bdP u n (sackF u n l ms) :=
  ⟨h.1, h.2.1, h.2.2.1, by have := sackF_len u n ms l; omega, sackF_rg u n ms l (bdP_good h) h.2.2.2.2.1, pair_apart (sackF_good u n ms l (bdP_good h)).1⟩
/-- One more told of what is told. -/
theorem sack_step {u n : Int} {l ms : List Rg} (h : bdP u n l) (hl : l.length + ms.length ≤ 40) (j : Nat) (hj : j < ms.length) : sackL u n (sackF u n l (ms.take j)) [ms[j]] = (u, n, sackF u n l (ms.take (j + 1)), true) := by
  have e : sackF u n (sackF u n l (ms.take j)) [ms[j]] = sackF u n l (ms.take (j + 1)) := by
    rw [← sackF_app, ← List.take_succ_eq_append_getElem hj]
  have b1 := sackF_bd h (ms.take j) (by rw [List.length_take]; omega)
  have b2 := sackF_bd h (ms.take (j + 1)) (by rw [List.length_take]; omega)
  rw [sackL_yes ⟨bd_yes b1, by simp, by rw [e]; exact bd_yes b2⟩, e]
/-- Is a place lost? -/
noncomputable def lostL (u n : Int) (l : List Rg) (p m : Int) : Bool := @decide (bdP u n l ∧ u ≤ p ∧ p < n ∧ 1 ≤ m ∧ m ≤ 10000 ∧ inL l p = false ∧ 3 * m ≤ manyR p l) (Classical.propDecidable _)
theorem lost_yes {u n p m : Int} {l : List Rg} (h : bdP u n l ∧ u ≤ p ∧ p < n ∧ 1 ≤ m ∧ m ≤ 10000 ∧ inL l p = false ∧ 3 * m ≤ manyR p l) : lostL u n l p m = true := by simpa [lostL] using h
theorem lost_of {u n p m : Int} {l : List Rg} (h : lostL u n l p m = true) : bdP u n l ∧ u ≤ p ∧ p < n ∧ 1 ≤ m ∧ m ≤ 10000 ∧ inL l p = false ∧ 3 * m ≤ manyR p l := by simpa [lostL] using h
theorem lost_no {u n p m : Int} {l : List Rg} (h : ¬ (bdP u n l ∧ u ≤ p ∧ p < n ∧ 1 ≤ m ∧ m ≤ 10000 ∧ inL l p = false ∧ 3 * m ≤ manyR p l)) : lostL u n l p m = false := by
  cases hc : lostL u n l p m
  · rfl
  · exact absurd (lost_of hc) h
theorem lost_ahead {u n p m q : Int} {l : List Rg} (h : lostL u n l p m = true) (h1 : u ≤ q) (h2 : q < p) : lostL u n l q m = !inL l q := by
  obtain ⟨a, b, c, d, e, f, g⟩ := lost_of h
  cases hq : inL l q
  · have := many_anti (Int.le_of_lt h2) l
    exact lost_yes ⟨a, h1, by omega, d, e, hq, by omega⟩
  · exact lost_no (fun k => by rw [hq] at k; simp at k)
theorem lost_less {u n p m : Int} {l : List Rg} (h : lostL u n l p m = true) (h1 : m ≠ 1) : lostL u n l p (m - 1) = true := by
  obtain ⟨a, b, c, d, e, f, g⟩ := lost_of h
  exact lost_yes ⟨a, b, c, by omega, by omega, f, by omega⟩
theorem lost_stays {u n p m U N : Int} {l ms L : List Rg} (h : lostL u n l p m = true) (hs : sackL u n l ms = (U, N, L, true)) (hL : inL L p = false) : lostL U N L p m = true := by
  obtain ⟨a, b, c, d, e, f, g⟩ := lost_of h
  obtain ⟨h1, h2, h3, rfl, rfl, _, h4, _⟩ := sack_facts hs
  have e1 := many_cnt p (N - p).toNat l (bdP_good a) (fun x hx => by have := (a.2.2.2.2.1 x hx).2.2; omega)
  have e2 := many_cnt p (N - p).toNat L (bdP_good h3) (fun x hx => by have := (h3.2.2.2.2.1 x hx).2.2; omega)
  have := cnt_mono (l := l) (m := L) (fun q hq => by rw [h4, hq, Bool.true_or]) p (N - p).toNat
  exact lost_yes ⟨h3, b, c, d, e, hL, by omega⟩
/-- How many are counted from a place on, as far as all of them lie. -/
theorem lost_many {u n p m : Int} {l : List Rg} {k : Nat} (h : lostL u n l p m = true) (hk : ∀ x ∈ l, x.2 ≤ p + k) : 3 * m ≤ cntL l p k := by
  obtain ⟨a, b, c, d, e, f, g⟩ := lost_of h
  rw [← many_cnt p k l (bdP_good a) hk]
  exact g

end Go.Proofs.Ytedgfiagefhahaa
