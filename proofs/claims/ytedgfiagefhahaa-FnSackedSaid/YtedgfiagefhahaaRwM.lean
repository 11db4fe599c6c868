/- One range more in a row of ranges: the program's merging and the model's are the same. Lists alone. -/
import Derived.Test.YtedgfiagefhahaaBd
namespace Go.Proofs.Ytedgfiagefhahaa
open Go.RowKit

def gapR (p q : Rg) : Prop := p.2 < q.1
def GdR (l : List Rg) : Prop := l.Pairwise gapR ∧ ∀ p ∈ l, p.1 < p.2
theorem gdR_cons {p : Rg} {l : List Rg} (h : GdR (p :: l)) : GdR l ∧ (∀ q ∈ l, p.2 < q.1) ∧ p.1 < p.2 :=
  ⟨⟨(List.pairwise_cons.mp h.1).2, fun q hq => h.2 q (by simp [hq])⟩, (List.pairwise_cons.mp h.1).1, h.2 p (by simp)⟩
theorem gdR_mk {p : Rg} {l : List Rg} (h : GdR l) (hg : ∀ q ∈ l, p.2 < q.1) (hp : p.1 < p.2) : GdR (p :: l) :=
  ⟨List.pairwise_cons.mpr ⟨hg, h.1⟩, fun q hq => by rcases List.mem_cons.mp hq with rfl | hq; exact hp; exact h.2 q hq⟩
theorem gdR_drop (k : Nat) {l : List Rg} (h : GdR l) : GdR (l.drop k) :=
  ⟨h.1.sublist (List.drop_sublist k l), fun p hp => h.2 p (List.mem_of_mem_drop hp)⟩
theorem apart_pair : ∀ l : List Rg, RApart l → (∀ x ∈ l, x.1 < x.2) → l.Pairwise gapR
  | [], _, _ => List.Pairwise.nil
  | [x], _, _ => by simp
  | x :: y :: l, ha, hp => by
    have h1 := apart_pair (y :: l) (fun i h => ha (i + 1) (by simpa using h)) (fun z hz => hp z (List.mem_cons_of_mem _ hz))
    have h2 : x.2 < y.1 := ha 0 (by simp)
    have h3 := hp y (by simp)
    refine List.pairwise_cons.mpr ⟨fun q hq => ?_, h1⟩
    rcases List.mem_cons.mp hq with rfl | hq
    · exact h2
    · have h4 : y.2 < q.1 := (List.pairwise_cons.mp h1).1 q hq
      show x.2 < q.1
      omega
theorem pair_apart {l : List Rg} (h : l.Pairwise gapR) : RApart l := fun i hi => List.pairwise_iff_getElem.mp h i (i + 1) (by omega) hi (by omega)
theorem bdP_good {u n : Int} {l : List Rg} (h : bdP u n l) : GdR l := ⟨apart_pair l h.2.2.2.2.2 (fun x hx => (h.2.2.2.2.1 x hx).2.1), fun x hx => (h.2.2.2.2.1 x hx).2.1⟩

def overR (p x : Rg) : Rg := (min p.1 x.1, max p.2 x.2)
def mergeR : List Rg → Rg → List Rg
  | [], x => [x]
  | p :: l, x => if p.1 ≤ x.2 then mergeR l (overR p x) else x :: p :: l
def withL : List Rg → Rg → List Rg
  | [], x => [x]
  | p :: l, x => if p.2 < x.1 then p :: withL l x else mergeR (p :: l) x
def absorb : List Rg → Rg → Rg
  | [], x => x
  | p :: l, x => absorb l (if x.1 ≤ p.2 ∧ p.1 ≤ x.2 then overR p x else x)
def emit : List Rg → Rg → Bool → List Rg
  | [], x, d => if d = true then [] else [x]
  | p :: l, x, d => if x.1 ≤ p.1 ∧ p.2 ≤ x.2 then emit l x d else if d = false ∧ x.1 < p.1 then x :: p :: emit l x true else p :: emit l x d
def putR (l : List Rg) (x : Rg) : List Rg := emit l (absorb l x) false

theorem absorb_lo (B : Int) : ∀ (l : List Rg) (x : Rg), (∀ z ∈ l, B < z.1) → B < x.1 → B < (absorb l x).1
  | [], x, _, h => h
  | p :: l, x, hl, h => by
    rw [absorb]
    refine absorb_lo B l _ (fun z hz => hl z (List.mem_cons_of_mem _ hz)) ?_
    have := hl p (by simp)
    split
    · show B < min p.1 x.1; omega
    · exact h
theorem absorb_le : ∀ (l : List Rg) (x : Rg), (absorb l x).1 ≤ x.1 ∧ x.2 ≤ (absorb l x).2
  | [], x => ⟨Int.le_refl _, Int.le_refl _⟩
  | p :: l, x => by
    rw [absorb]
    obtain ⟨a, b⟩ := absorb_le l (if x.1 ≤ p.2 ∧ p.1 ≤ x.2 then overR p x else x)
    split at a <;> split at b
    · have a1 : (overR p x).1 ≤ x.1 := by show min p.1 x.1 ≤ x.1; omega
      have b1 : x.2 ≤ (overR p x).2 := by show x.2 ≤ max p.2 x.2; omega
      rw [if_pos (by assumption)]
      omega
    · contradiction
    · contradiction
    · rw [if_neg (by assumption)]
      omega
theorem absorb_far : ∀ (l : List Rg) (x : Rg), (∀ z ∈ l, x.2 < z.1) → absorb l x = x
  | [], x, _ => rfl
  | p :: l, x, h => by
    have := h p (by simp)
    rw [absorb, if_neg (by omega)]
    exact absorb_far l x (fun z hz => h z (List.mem_cons_of_mem _ hz))
theorem emit_done : ∀ (l : List Rg) (x : Rg), (∀ z ∈ l, x.2 < z.1 ∧ z.1 < z.2) → emit l x true = l
  | [], x, _ => by simp [emit]
  | p :: l, x, h => by
    have := h p (by simp)
    rw [emit, if_neg (by omega), if_neg (by simp), emit_done l x (fun z hz => h z (List.mem_cons_of_mem _ hz))]
theorem merge_put : ∀ (l : List Rg) (x : Rg), GdR l → (∀ z ∈ l, x.1 ≤ z.2) → x.1 < x.2 → emit l (absorb l x) false = mergeR l x
  | [], x, _, _, _ => by simp [emit, absorb, mergeR]
  | p :: l, x, hg, hz, hx => by
    obtain ⟨g1, g2, g3⟩ := gdR_cons hg
    have h0 := hz p (by simp)
    by_cases ht : p.1 ≤ x.2
    · rw [absorb, if_pos ⟨h0, ht⟩, mergeR, if_pos ht]
      have hl := absorb_le l (overR p x)
      have e1 : (overR p x).1 = min p.1 x.1 := rfl
      have e2 : (overR p x).2 = max p.2 x.2 := rfl
      rw [emit, if_pos (by omega)]
      exact merge_put l (overR p x) g1 (fun z hz' => by have := g2 z hz'; have := g1.2 z hz'; omega) (by omega)
    · have hf : ∀ z ∈ l, x.2 < z.1 := fun z hz' => by have := g2 z hz'; omega
      rw [absorb, if_neg (by omega), absorb_far l x hf, mergeR, if_neg ht, emit, if_neg (by omega), if_pos ⟨rfl, by omega⟩, emit_done l x (fun z hz' => ⟨hf z hz', g1.2 z hz'⟩)]
theorem with_put : ∀ (l : List Rg) (x : Rg), GdR l → x.1 < x.2 → putR l x = withL l x
  | [], x, _, _ => by simp [putR, emit, absorb, withL]
  | p :: l, x, hg, hx => by
    obtain ⟨g1, g2, g3⟩ := gdR_cons hg
    by_cases ht : p.2 < x.1
    · have h1 := absorb_lo p.2 l x g2 ht
      have h2 := with_put l x g1 hx
      unfold putR at h2 ⊢
      rw [absorb, if_neg (by omega), emit, if_neg (by omega), if_neg (by omega), withL, if_pos ht, h2]
    · rw [withL, if_neg ht]
      refine merge_put (p :: l) x hg (fun z hz => ?_) hx
      rcases List.mem_cons.mp hz with rfl | hz
      · omega
      · have := g2 z hz; have := g1.2 z hz; omega

theorem merge_len : ∀ (l : List Rg) (x : Rg), (mergeR l x).length ≤ l.length + 1
  | [], x => by simp [mergeR]
  | p :: l, x => by
    rw [mergeR]
    split
    · have := merge_len l (overR p x); simp only [List.length_cons]; omega
    · simp
theorem with_len : ∀ (l : List Rg) (x : Rg), (withL l x).length ≤ l.length + 1
  | [], x => by simp [withL]
  | p :: l, x => by
    rw [withL]
    split
    · have := with_len l x; simp only [List.length_cons]; omega
    · exact merge_len (p :: l) x
theorem merge_low (B : Int) : ∀ (l : List Rg) (x : Rg), (∀ z ∈ l, B < z.1) → B < x.1 → ∀ z ∈ mergeR l x, B < z.1
  | [], x, _, h, z, hz => by simp [mergeR] at hz; rw [hz]; exact h
  | p :: l, x, hl, h, z, hz => by
    rw [mergeR] at hz
    have := hl p (by simp)
    split at hz
    · exact merge_low B l _ (fun z hz => hl z (List.mem_cons_of_mem _ hz)) (by show B < min p.1 x.1; omega) z hz
    · rcases List.mem_cons.mp hz with rfl | hz
      · exact h
      · exact hl z hz
theorem merge_good : ∀ (l : List Rg) (x : Rg), GdR l → x.1 < x.2 → GdR (mergeR l x)
  | [], x, h, hx => gdR_mk h (by simp) hx
  | p :: l, x, h, hx => by
    obtain ⟨g1, g2, g3⟩ := gdR_cons h
    rw [mergeR]
    split
    · exact merge_good l _ g1 (by show min p.1 x.1 < max p.2 x.2; omega)
    · refine gdR_mk h (fun q hq => ?_) hx
      rcases List.mem_cons.mp hq with rfl | hq
      · omega
      · have := g2 q hq; omega
theorem with_low (B : Int) : ∀ (l : List Rg) (x : Rg), (∀ z ∈ l, B < z.1) → B < x.1 → ∀ z ∈ withL l x, B < z.1
  | [], x, _, h, z, hz => by simp [withL] at hz; rw [hz]; exact h
  | p :: l, x, hl, h, z, hz => by
    rw [withL] at hz
    split at hz
    · rcases List.mem_cons.mp hz with rfl | hz
      · exact hl z (by simp)
      · exact with_low B l x (fun z hz => hl z (List.mem_cons_of_mem _ hz)) h z hz
    · exact merge_low B (p :: l) x hl h z hz
theorem with_good : ∀ (l : List Rg) (x : Rg), GdR l → x.1 < x.2 → GdR (withL l x)
  | [], x, h, hx => gdR_mk h (by simp) hx
  | p :: l, x, h, hx => by
    obtain ⟨g1, g2, g3⟩ := gdR_cons h
    rw [withL]
    split
    · exact gdR_mk (with_good l x g1 hx) (with_low p.2 l x g2 (by assumption)) g3
    · exact merge_good (p :: l) x h hx

/-- What is told one by one. -/
def sackF (u n : Int) : List Rg → List Rg → List Rg
  | t, [] => t
  | t, x :: m => sackF u n (if rg1 u n x then withL t x else t) m
theorem sackF_next (u n : Int) : ∀ (m t : List Rg) (j : Nat) (h : j < m.length), sackF u n t (m.take (j + 1)) = (if rg1 u n m[j] then withL (sackF u n t (m.take j)) m[j] else sackF u n t (m.take j))
  | x :: m, t, 0, _ => by simp [sackF]
  | x :: m, t, j + 1, h => by
    have := sackF_next u n m (if rg1 u n x then withL t x else t) j (by simpa using h)
    simpa [sackF] using this
theorem sackF_good (u n : Int) : ∀ (m t : List Rg), GdR t → GdR (sackF u n t m)
  | [], t, h => h
  | x :: m, t, h => by
    rw [sackF]
    refine sackF_good u n m _ ?_
    split
    · rename_i hx; exact with_good t x h hx.2.1
    · exact h
theorem sackF_len (u n : Int) : ∀ (m t : List Rg), (sackF u n t m).length ≤ t.length + m.length
  | [], t => by simp [sackF]
  | x :: m, t => by
    rw [sackF]
    have h1 := sackF_len u n m (if rg1 u n x then withL t x else t)
    have h2 := with_len t x
    simp only [List.length_cons]
    split at h1 <;> split <;> first | contradiction | omega

end Go.Proofs.Ytedgfiagefhahaa
