/- What is whole: each fragment ends within it, the first one's bytes lie at its place. Lists alone. -/
import Derived.Test.YtaigdimicnlfdaaFrY
namespace Go.Proofs.Ytaigdimicnlfdaa
open Go.RowKit Go.Maps

theorem fold_keeps : ∀ (r : List Fg) (q p : List Pk), pcsOk q = true → (∀ x ∈ r, frG x) → r.foldl stA (some q) = some p → ∀ a b, byteL q a = some b → byteL p a = some b
  | [], q, p, _, _, h, a, b, hb => by
    simp only [List.foldl_nil, Option.some.injEq] at h
    rw [← h]; exact hb
  | x :: r, q, p, hq, hr, h, a, b, hb => by
    rw [List.foldl_cons] at h
    cases hs : stA (some q) x with
    | none =>
      rw [hs] at h
      have : ∀ r : List Fg, r.foldl stA none = none := by
        intro r
        induction r with
        | nil => rfl
        | cons y r ih => rw [List.foldl_cons]; exact ih
      rw [this] at h
      cases h
    | some q2 =>
      rw [hs] at h
      obtain ⟨ha, rfl⟩ := stA_some hs
      refine fold_keeps r _ p (addOk_parts ha).2.2 (fun y hy => hr y (List.mem_cons_of_mem _ hy)) h a b ?_
      rw [(with_good q (pcF x) (PcsP.good (pcs_of hq)) (frG_ne (hr x (List.mem_cons_self ..)))).2 a, hb]
      rfl

theorem one_at (s : List UInt8) (a : Int) : byteL [(0, s)] a = if 0 ≤ a then s[a.toNat]? else none := by
  unfold byteL byteL pcAt
  simp

theorem whole_in {l : List Fg} {s : List UInt8} (h : WP l s) {x : Fg} (hx : x ∈ l) : 0 ≤ 8 * x.f ∧ endX x ≤ (s.length : Int) := by
  obtain ⟨h1, h2, h3, h4, h5⟩ := h
  obtain ⟨g1, g2, g3, g4, _⟩ := h1 x hx
  refine ⟨by omega, ?_⟩
  have hk := ((foldA_df _ l rfl h1).2 _ h5).2 x hx (endX x - 1)
  obtain ⟨b, hb⟩ := pcAt_in (p := pcF x) (a := endX x - 1) (by simp only [pcF, endX]; omega) (by simp only [pcF, endX]; omega)
  rw [hb] at hk
  have := hk rfl
  rw [one_at, if_pos (by unfold endX; omega)] at this
  by_cases hlt : (endX x - 1).toNat < s.length
  · omega
  · rw [List.getElem?_eq_none (by omega)] at this
    simp at this

theorem whole_first {x : Fg} {r : List Fg} {s : List UInt8} (h : WP (x :: r) s) : (s.drop (8 * x.f).toNat).take x.d.length = x.d := by
  have hin := whole_in h (List.mem_cons_self ..)
  obtain ⟨h1, h2, h3, h4, h5⟩ := h
  have hx := h1 x (List.mem_cons_self ..)
  have h6 : r.foldl stA (stA (some []) x) = some [(0, s)] := h5
  cases hs : stA (some []) x with
  | none =>
    rw [hs] at h6
    have : ∀ r : List Fg, r.foldl stA none = none := by
      intro r
      induction r with
      | nil => rfl
      | cons y r ih => rw [List.foldl_cons]; exact ih
    rw [this] at h6
    cases h6
  | some q =>
    rw [hs] at h6
    obtain ⟨ha, rfl⟩ := stA_some hs
    have hk := fold_keeps r _ _ (addOk_parts ha).2.2 (fun y hy => h1 y (List.mem_cons_of_mem _ hy)) h6
    unfold endX at hin
    apply List.ext_getElem
    · rw [List.length_take, List.length_drop]; omega
    · intro i hi1 hi2
      have := hk (8 * x.f + i) x.d[i] (by
        have e : withL [] (pcF x) = [pcF x] := rfl
        rw [e]
        unfold byteL byteL pcAt pcF
        dsimp only
        rw [if_pos (by omega), show (8 * x.f + (i : Int) - 8 * x.f).toNat = i from by omega, List.getElem?_eq_getElem hi2]
        rfl)
      rw [one_at, if_pos (by omega)] at this
      rw [List.getElem_take, List.getElem_drop]
      have hj : (8 * x.f + (i : Int)).toNat = (8 * x.f).toNat + i := by omega
      rw [hj, List.getElem?_eq_getElem (by omega)] at this
      simpa using this

end Go.Proofs.Ytaigdimicnlfdaa
