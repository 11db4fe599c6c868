/- What fragments make whole, as lists; those that are alike add nothing. -/
import Derived.Test.YtaigdimicnlfdaaFrK
import Derived.Test.YtaigdimicnlfdaaPcAi
namespace Go.Proofs.Ytaigdimicnlfdaa
open Go.RowKit Go.Maps

def pcF (x : Fg) : Pk := (8 * x.f, x.d)
def endX (x : Fg) : Int := 8 * x.f + (x.d.length : Int)
abbrev frG (x : Fg) : Prop := frP x.f x.m x.d
noncomputable def stA (o : Option (List Pk)) (x : Fg) : Option (List Pk) := o.bind fun l => if addOk l (pcF x) = true then some (withL l (pcF x)) else none
noncomputable def foldA (l : List Fg) : Option (List Pk) := l.foldl stA (some [])

theorem foldA_snoc (l : List Fg) (x : Fg) : foldA (l ++ [x]) = stA (foldA l) x := by simp [foldA]

theorem foldA_next (l : List Fg) (j : Nat) (h : j < l.length) : foldA (l.take (j + 1)) = stA (foldA (l.take j)) l[j] := by
  rw [List.take_succ_eq_append_getElem h, foldA_snoc]

theorem foldA_none {l : List Fg} {j : Nat} (h : foldA (l.take j) = none) : foldA l = none := by
  have e : l = l.take j ++ l.drop j := (List.take_append_drop j l).symm
  rw [e, foldA, List.foldl_append]
  have h2 : (l.take j).foldl stA (some []) = none := h
  rw [h2]
  generalize l.drop j = r
  induction r with
  | nil => rfl
  | cons x r ih => rw [List.foldl_cons]; exact ih

theorem stA_some {p q : List Pk} {x : Fg} (h : stA (some p) x = some q) : addOk p (pcF x) = true ∧ q = withL p (pcF x) := by
  unfold stA at h
  by_cases hk : addOk p (pcF x) = true
  · simp [hk] at h
    exact ⟨hk, h.symm⟩
  · simp [hk] at h

theorem addOk_parts {p : List Pk} {x : Pk} (h : addOk p x = true) : pcsOk p = true ∧ pcIn 5000 300 x = true ∧ pcsOk (withL p x) = true := by
  unfold addOk at h
  simp only [Bool.and_eq_true] at h
  exact ⟨h.1.1, h.1.2, h.2⟩

/-- All places of what was added are known. -/
def KnowsAll (p : List Pk) (l : List Fg) : Prop := pcsOk p = true ∧ ∀ x ∈ l, ∀ a, (pcAt (pcF x) a).isSome = true → (byteL p a).isSome = true

theorem pcs_nil : pcsOk [] = true := pcs_yes ⟨by simp, by simp, by intro i h; simp at h⟩

theorem frG_in {x : Fg} (h : frG x) : pcIn 5000 300 (pcF x) = true := by
  obtain ⟨h1, h2, h3, h4, _⟩ := h
  unfold pcIn pcF
  rw [decide_eq_true_eq]
  dsimp only
  omega

theorem frG_ne {x : Fg} (h : frG x) : (pcF x).2 ≠ [] := by
  intro e
  have := h.2.2.1
  simp only [pcF] at e
  rw [e] at this
  simp at this

theorem knows_step {p : List Pk} {l : List Fg} {x : Fg} (h : KnowsAll p l) (hx : frG x) (ha : addOk p (pcF x) = true) : KnowsAll (withL p (pcF x)) (l ++ [x]) := by
  have hg := with_good p (pcF x) (PcsP.good (pcs_of h.1)) (frG_ne hx)
  refine ⟨(addOk_parts ha).2.2, fun y hy a hs => ?_⟩
  rw [hg.2 a]
  rcases List.mem_append.mp hy with hy | hy
  · have := h.2 y hy a hs
    cases hb : byteL p a with
    | none => rw [hb] at this; simp at this
    | some b => simp
  · obtain rfl := List.mem_singleton.mp hy
    cases hb : byteL p a with
    | none => simpa using hs
    | some b => simp

theorem knows_same {p : List Pk} {l : List Fg} {x : Fg} (h : KnowsAll p l) (hx : frG x) (hm : x ∈ l) : stA (some p) x = some p := by
  have hgp := PcsP.good (pcs_of h.1)
  have hg := with_good p (pcF x) hgp (frG_ne hx)
  have e : withL p (pcF x) = p := by
    refine good_eq hg.1 hgp fun a => ?_
    rw [hg.2 a]
    cases hb : byteL p a with
    | some b => simp
    | none =>
      cases hc : pcAt (pcF x) a with
      | none => simp
      | some c =>
        have := h.2 x hm a (by rw [hc]; rfl)
        rw [hb] at this
        simp at this
  have ha : addOk p (pcF x) = true := by
    unfold addOk
    rw [e, h.1, frG_in hx]
    rfl
  unfold stA
  simp [ha, e]

theorem df_snoc (l : List Fg) (x : Fg) : dfL (l ++ [x]) = if x ∈ dfL l then dfL l else dfL l ++ [x] := by
  unfold dfL
  rw [List.foldl_append]
  rfl

theorem foldA_df : ∀ (n : Nat) (l : List Fg), l.length = n → (∀ x ∈ l, frG x) → foldA (dfL l) = foldA l ∧ ∀ p, foldA l = some p → KnowsAll p l
  | 0, l, hn, _ => by
    obtain rfl := List.length_eq_zero_iff.mp hn
    refine ⟨rfl, fun p hp => ?_⟩
    simp [foldA] at hp
    subst hp
    exact ⟨pcs_nil, by simp⟩
  | n + 1, l, hn, hr => by
    obtain ⟨m, x, rfl⟩ : ∃ m x, l = m ++ [x] := by
      rcases List.eq_nil_or_concat l with h | ⟨m, x, h⟩
      · rw [h] at hn; simp at hn
      · exact ⟨m, x, by rw [h, List.concat_eq_append]⟩
    have hm : m.length = n := by simpa using hn
    obtain ⟨h1, h2⟩ := foldA_df n m hm (fun y hy => hr y (List.mem_append.mpr (.inl hy)))
    have hx := hr x (List.mem_append.mpr (.inr (List.mem_singleton.mpr rfl)))
    refine ⟨?_, fun p hp => ?_⟩
    · rw [df_snoc, foldA_snoc]
      by_cases hd : x ∈ dfL m
      · rw [if_pos hd, h1]
        cases hf : foldA m with
        | none => rfl
        | some p => rw [knows_same (h2 p hf) hx (mem_df.mp hd)]
      · rw [if_neg hd, foldA_snoc, h1]
    · rw [foldA_snoc] at hp
      cases hf : foldA m with
      | none => rw [hf] at hp; simp [stA] at hp
      | some q =>
        rw [hf] at hp
        obtain ⟨ha, rfl⟩ := stA_some hp
        exact knows_step (h2 q hf) hx ha

theorem foldA_diff {l : List Fg} (h : ∀ x ∈ l, frG x) : foldA (dfL l) = foldA l := (foldA_df _ l rfl h).1

theorem foldA_ok {l : List Fg} {p : List Pk} (h : ∀ x ∈ l, frG x) (hp : foldA l = some p) : pcsOk p = true := ((foldA_df _ l rfl h).2 p hp).1

/-- What fragments make whole. -/
def WP (l : List Fg) (s : List UInt8) : Prop := (∀ x ∈ l, frG x) ∧ l.length ≤ 200 ∧ (∃ x ∈ l, x.m = false) ∧ (∀ x ∈ l, x.m = false → endX x = (s.length : Int)) ∧ foldA l = some [(0, s)]

theorem WP.unique {l : List Fg} {s t : List UInt8} (h : WP l s) (k : WP l t) : s = t := by
  have := h.2.2.2.2.symm.trans k.2.2.2.2
  simpa using this

open Classical in
noncomputable def whS (l : List Fg) : List UInt8 := if h : ∃ s, WP l s then h.choose else []
noncomputable def whOk (l : List Fg) : Bool := @decide (∃ s, WP l s) (Classical.propDecidable _)

theorem wh_yes {l : List Fg} {s : List UInt8} (h : WP l s) : whS l = s ∧ whOk l = true := by
  have he : ∃ s, WP l s := ⟨s, h⟩
  refine ⟨?_, by simpa [whOk] using he⟩
  unfold whS
  rw [dif_pos he]
  exact he.choose_spec.unique h

theorem wh_no {l : List Fg} (h : ∀ s, ¬ WP l s) : whS l = [] ∧ whOk l = false := by
  have he : ¬ ∃ s, WP l s := fun ⟨s, k⟩ => h s k
  refine ⟨?_, by simpa [whOk] using he⟩
  unfold whS
  rw [dif_neg he]

def WhPost (w : World) (l : List Fg) (e : Ending) (w' : World) : Prop := e = .returned (.tuple #[.string ⟨(whS l).toArray⟩, .bool (whOk l)]) ∧ w.grownBy w' none

theorem wh_ret {w w' : World} {l : List Fg} {s : List UInt8} (h : WP l s) (hg : w.grownBy w' none) : WhPost w l (.returned (.tuple #[.string ⟨s.toArray⟩, .bool true])) w' := by
  obtain ⟨h1, h2⟩ := wh_yes h
  exact ⟨by rw [h1, h2], hg⟩

theorem wh_bad {w w' : World} {l : List Fg} (h : ∀ s, ¬ WP l s) (hg : w.grownBy w' none) : WhPost w l (.returned (.tuple #[.string ⟨#[]⟩, .bool false])) w' := by
  obtain ⟨h1, h2⟩ := wh_no h
  exact ⟨by rw [h1, h2], hg⟩

end Go.Proofs.Ytaigdimicnlfdaa
