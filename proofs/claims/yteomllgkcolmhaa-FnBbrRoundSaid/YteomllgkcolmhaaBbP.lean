/- What a step leaves of a state that is right; eight steps of one that probes. -/
import Derived.Test.YteomllgkcolmhaaBbT
namespace Go.Proofs.Yteomllgkcolmhaa
open Go.RowKit

theorem ph_yes {p s t : Int} {n : Nat} (h : (p = 1 ∧ 0 ≤ s ∧ s < 3 ∧ t = 0) ∨ (p = 2 ∧ s = 3 ∧ 0 < n ∧ t = 0) ∨ (p = 3 ∧ s = 3 ∧ 0 < n ∧ 0 ≤ t ∧ t < 8)) : phB p s t n = true := decide_eq_true h

theorem inB_of {x a b : Int} (h : a ≤ x ∧ x ≤ b) : inB x a b = true := by
  cases k : inB x a b
  · exact absurd h (in_not k)
  · rfl

theorem bb_mk {p : Int} {l : List Rg} {r f s t : Int} (hl : flP l) (hr : 1 ≤ r ∧ r ≤ 60000) (hf : 0 ≤ f ∧ f ≤ 1000000000) (h : (p = 1 ∧ 0 ≤ s ∧ s < 3 ∧ t = 0) ∨ (p = 2 ∧ s = 3 ∧ 0 < l.length ∧ t = 0) ∨ (p = 3 ∧ s = 3 ∧ 0 < l.length ∧ 0 ≤ t ∧ t < 8)) : bbOk p l r f s t = true := by
  rw [bb_yes (fl_yes hl) (inB_of hr) (inB_of hf)]
  exact ph_yes h

theorem mn_bd (a b : Int) : mnI a b ≤ a ∧ mnI a b ≤ b ∧ (mnI a b = a ∨ mnI a b = b) := by
  unfold mnI
  split <;> omega

/-- What a step leaves: a right state, its phase, the least way there and back, what it was filled with. -/
theorem step_good {b : Bb} {x : Rg} {q fl : Int} (h : stepP b x q fl) :
    bbOk (stepN b x q fl).p (stepN b x q fl).l (stepN b x q fl).r (stepN b x q fl).f (stepN b x q fl).s (stepN b x q fl).t = true ∧ b.p ≤ (stepN b x q fl).p ∧ (stepN b x q fl).p ≤ b.p + 1 ∧ (stepN b x q fl).r ≤ b.r ∧ b.f ≤ (stepN b x q fl).f := by
  unfold stepN
  obtain ⟨h1, h2, h3, h4⟩ := h
  obtain ⟨g1, g2, g3, g4⟩ := bb_of h1
  have g5 := in_of h2
  have hl : 0 < (addF b.l x (10 * b.r)).length := by simp [addF]
  have hF := h4.2.2.2.2.2
  obtain ⟨m1, m2, m3⟩ := mn_bd b.r q
  have hm : 1 ≤ mnI b.r q ∧ mnI b.r q ≤ 60000 := by omega
  have hb := rate_bd (addF b.l x (10 * b.r))
  have he : bestF (addF b.l x (10 * b.r)) = rateF (addF b.l x (10 * b.r)) := by rw [rate_at hF hl, bestF_yes hF hl]
  rw [← he] at hb
  generalize addF b.l x (10 * b.r) = A at *
  generalize hM : mnI b.r q = M at *
  generalize hB : bestF A = y at *
  rcases g4 with ⟨p1, s0, s3, t0⟩ | ⟨p1, s0, s3, t0⟩ | ⟨p1, s0, s3, t0⟩
  · rw [if_pos p1]
    unfold upF
    rw [hB]
    by_cases hc : 0 < y ∧ b.f + b.f / 4 ≤ y
    · rw [if_pos hc]
      exact ⟨bb_mk hF hm ⟨by dsimp only; omega, by dsimp only; omega⟩ (.inl ⟨rfl, by dsimp only; omega, by dsimp only; omega, t0⟩), by dsimp only; omega, by dsimp only; omega, m1, by dsimp only; omega⟩
    · rw [if_neg hc]
      by_cases hs : b.s + 1 = 3
      · rw [if_pos hs]
        exact ⟨bb_mk hF hm g3 (.inr (.inl ⟨rfl, hs, hl, t0⟩)), by dsimp only; omega, by dsimp only; omega, m1, Int.le_refl _⟩
      · rw [if_neg hs]
        exact ⟨bb_mk hF hm g3 (.inl ⟨rfl, by dsimp only; omega, by dsimp only; omega, t0⟩), by dsimp only; omega, by dsimp only; omega, m1, Int.le_refl _⟩
  · rw [if_neg (by omega), if_pos p1]
    unfold drF
    by_cases hc : fl ≤ pipeF A M
    · rw [if_pos hc]
      exact ⟨bb_mk hF hm g3 (.inr (.inr ⟨rfl, s0, hl, by dsimp only; omega, by dsimp only; omega⟩)), by dsimp only; omega, by dsimp only; omega, m1, Int.le_refl _⟩
    · rw [if_neg hc]
      exact ⟨bb_mk hF hm g3 (.inr (.inl ⟨rfl, s0, hl, t0⟩)), by dsimp only; omega, by dsimp only; omega, m1, Int.le_refl _⟩
  · rw [if_neg (by omega), if_neg (by omega)]
    unfold prF
    have h8 : 0 ≤ (b.t + 1) % 8 ∧ (b.t + 1) % 8 < 8 := by omega
    exact ⟨bb_mk hF hm g3 (.inr (.inr ⟨rfl, s0, hl, h8.1, h8.2⟩)), by dsimp only; omega, by dsimp only; omega, m1, Int.le_refl _⟩

theorem win_four {p : Int} {l : List Rg} {r f s t : Int} (h : bbOk p l r f s t = true) : 4 ≤ winF p l r f s t := by
  unfold winF
  rw [if_pos h]
  have hr := (bb_of h).2.1
  have h1 := (pipe_bd l r hr).1
  have h2 := (th_bd p t).1
  have h3 : 0 ≤ pipeF l r * thF p t := Int.mul_nonneg h1 h2
  omega

/-- A step adds at most one sample. -/
theorem step_more (b : Bb) (x : Rg) (q fl : Int) : (stepB b x q fl).l.length ≤ b.l.length + 1 := by
  by_cases h : stepP b x q fl
  · rw [stepB_yes h, stepN_l]
    exact addF_len _ _ _
  · rw [stepB_no h]; simp [bbZ]

theorem last_add {l : List Rg} {x : Rg} {w : Int} : ∀ k (h : k < (addF l x w).length), k + 1 = (addF l x w).length → (addF l x w)[k] = x := by
  intro k h hk
  have hl : (addF l x w).length = (l.filter (keepF x w)).length + 1 := by simp [addF]
  have h2 : (addF l x w)[k]? = some x := by
    rw [show k = (l.filter (keepF x w)).length from by omega, addF, List.getElem?_append_right (Nat.le_refl _)]
    simp
  rw [List.getElem?_eq_getElem h] at h2
  simpa using h2

/-- A sample of no rate fits behind the last one. -/
theorem add_zero {l : List Rg} {x : Rg} {w v : Int} (h : addP l x w) (hl : l.length ≤ 20) (hv : 1 ≤ v ∧ v ≤ 1000000000000) : addP (addF l x w) (x.1, 0) v := by
  have hF := h.2.2.2.2.2
  obtain ⟨x1, x2, x3, x4⟩ := h.2.1
  have hlen := addF_len l x w
  have hlen2 := addF_len (addF l x w) (x.1, 0) v
  have hz : smP ((x.1, 0) : Rg) := ⟨x1, x2, by simp, by simp⟩
  refine ⟨hF, hz, hv.1, hv.2, ?_, by omega, ?_, ?_⟩
  · intro k hk hk2
    rw [last_add k hk hk2]
    exact Int.le_refl _
  · intro y hy
    rcases List.mem_append.mp hy with hy | hy
    · exact hF.2.1 y (List.mem_filter.mp hy).1
    · obtain rfl := List.mem_singleton.mp hy
      exact hz
  · refine List.pairwise_append.mpr ⟨hF.2.2.sublist List.filter_sublist, List.pairwise_singleton _ _, ?_⟩
    intro y hy z hz
    obtain rfl := List.mem_singleton.mp hz
    obtain ⟨hy1, hy2⟩ := List.mem_filter.mp hy
    simp [keepF] at hy2
    refine ⟨?_, hy2.1⟩
    rcases List.mem_append.mp hy1 with hm | hm
    · have hm2 := (List.mem_filter.mp hm).1
      obtain ⟨i, hi, rfl⟩ := List.getElem_of_mem hm2
      have hlast := h.2.2.2.2.1 (l.length - 1) (by omega) (by omega)
      by_cases e : i = l.length - 1
      · subst e; exact hlast
      · have := List.pairwise_iff_getElem.mp h.1.2.2 i (l.length - 1) hi (by omega) (by omega)
        exact Int.le_trans this.1 hlast
    · obtain rfl := List.mem_singleton.mp hm
      exact Int.le_refl _

/-- Where the round stands: what the state's filter is, behind so many steps. -/
def rowJ (l : List Rg) (x : Int) (w : Int) : Nat → List Rg
  | 0 => l
  | _ + 1 => addF l (x, 0) w

theorem rowJ_add {l : List Rg} {x w : Int} (h : addP l (x, 0) w) (j : Nat) : addF (rowJ l x w j) (x, 0) w = addF l (x, 0) w ∧ addP (rowJ l x w j) (x, 0) w := by
  cases j with
  | zero => exact ⟨rfl, h⟩
  | succ j => exact add_twice h

theorem round_step {l : List Rg} {x R f s t : Int} (h : addP l (x, 0) (10 * R)) (hb : bbOk 3 l R f s t = true) (j : Nat) :
    stepP (⟨3, rowJ l x (10 * R) j, R, f, s, (t + j) % 8⟩ : Bb) (x, 0) R 0 ∧ stepN (⟨3, rowJ l x (10 * R) j, R, f, s, (t + j) % 8⟩ : Bb) (x, 0) R 0 = ⟨3, rowJ l x (10 * R) (j + 1), R, f, s, (t + (j + 1 : Nat)) % 8⟩ := by
  obtain ⟨g1, g2, g3, g4⟩ := bb_of hb
  obtain ⟨k1, k2⟩ := rowJ_add h j
  have hl : 0 < (rowJ l x (10 * R) j).length := by
    cases j with
    | zero => rcases g4 with g | g | g <;> first | omega | exact g.2.2.1
    | succ j => simp [rowJ, addF]
  have hs : s = 3 := by omega
  refine ⟨⟨bb_mk k2.1 g2 g3 (.inr (.inr ⟨rfl, hs, hl, by dsimp only; omega, by dsimp only; omega⟩)), inB_of g2, inB_of (by omega), k2⟩, ?_⟩
  unfold stepN
  rw [if_neg (by simp), if_neg (by simp)]
  unfold prF
  rw [k1]
  have hm : mnI R R = R := by unfold mnI; rw [if_neg (by omega)]
  dsimp only
  rw [hm, show ((t + (j : Int)) % 8 + 1) % 8 = (t + ((j + 1 : Nat) : Int)) % 8 from by omega]
  rfl

theorem round_win {l : List Rg} {R f s t : Int} (h : bbOk 3 l R f s t = true) (h0 : 0 < l.length) : bestF l * R / 1000 = pipeF l R ∧ 0 ≤ bestF l * R ∧ bestF l * R ≤ 60000000000000 ∧ 0 ≤ pipeF l R ∧ pipeF l R ≤ 60000000000 ∧ winF 3 l R f s t ≤ pipeF l R * 5 / 4 + 4 ∧ pipeF l R * 3 / 4 + 4 ≤ winF 3 l R f s t := by
  obtain ⟨g1, g2, g3, g4⟩ := bb_of h
  have he : bestF l = rateF l := by rw [rate_at g1 h0, bestF_yes g1 h0]
  obtain ⟨p0, p1, p2, p3⟩ := pipe_bd l R g2
  rw [he]
  refine ⟨rfl, p2, p3, p0, p1, ?_, ?_⟩
  all_goals
    unfold winF thF
    rw [if_pos h, if_neg (by decide), if_neg (by decide)]
    repeat' split
    all_goals omega

end Go.Proofs.Yteomllgkcolmhaa
