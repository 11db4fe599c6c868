/- Pieces as lists: what is known at a place; two right rows that know the same are the same; what a scan of all places makes; what comes of one piece more. -/
import Derived.Test.YteffpcgmoegomaaPcOk
namespace Go.Proofs.Yteffpcgmoegomaa.P7
open Go.RowKit

def pcAt (p : Pk) (a : Int) : Option UInt8 := if p.1 ≤ a then p.2[(a - p.1).toNat]? else none
def byteL : List Pk → Int → Option UInt8
  | [], _ => none
  | p :: l, a => (pcAt p a).or (byteL l a)
def gap (p q : Pk) : Prop := p.1 + (p.2.length : Int) < q.1
def Good (l : List Pk) : Prop := l.Pairwise gap ∧ ∀ p ∈ l, p.2 ≠ []

theorem pcAt_some {p : Pk} {a : Int} {b : UInt8} (h : pcAt p a = some b) : p.1 ≤ a ∧ a < p.1 + (p.2.length : Int) := by
  unfold pcAt at h
  split at h
  · obtain ⟨hlt, _⟩ := List.getElem?_eq_some_iff.mp h
    omega
  · cases h
theorem pcAt_in {p : Pk} {a : Int} (h0 : p.1 ≤ a) (h1 : a < p.1 + (p.2.length : Int)) : ∃ b, pcAt p a = some b := by
  unfold pcAt
  rw [if_pos h0]
  exact ⟨_, List.getElem?_eq_getElem (by omega)⟩
theorem pcAt_out {p : Pk} {a : Int} (h : a < p.1 ∨ p.1 + (p.2.length : Int) ≤ a) : pcAt p a = none := by
  cases h' : pcAt p a with
  | none => rfl
  | some b => have := pcAt_some h'; omega
theorem byteL_some {b : UInt8} : ∀ {l : List Pk} {a : Int}, byteL l a = some b → ∃ p ∈ l, pcAt p a = some b
  | [], _, h => by cases h
  | p :: l, a, h => by
    rw [byteL] at h
    cases h' : pcAt p a with
    | some c => rw [h'] at h; exact ⟨p, by simp, by rw [h']; exact h⟩
    | none =>
      rw [h'] at h
      obtain ⟨q, hq, hb⟩ := byteL_some h
      exact ⟨q, by simp [hq], hb⟩
theorem byteL_none {l : List Pk} {a : Int} (h : ∀ p ∈ l, pcAt p a = none) : byteL l a = none := by
  cases h' : byteL l a with
  | none => rfl
  | some b => obtain ⟨p, hp, hb⟩ := byteL_some h'; rw [h p hp] at hb; cases hb
theorem good_cons {p : Pk} {l : List Pk} (h : Good (p :: l)) : Good l ∧ (∀ q ∈ l, gap p q) ∧ p.2 ≠ [] :=
  ⟨⟨(List.pairwise_cons.mp h.1).2, fun q hq => h.2 q (by simp [hq])⟩, (List.pairwise_cons.mp h.1).1, h.2 p (by simp)⟩
theorem good_mk {p : Pk} {l : List Pk} (h : Good l) (hg : ∀ q ∈ l, gap p q) (hp : p.2 ≠ []) : Good (p :: l) :=
  ⟨List.pairwise_cons.mpr ⟨hg, h.1⟩, fun q hq => by rcases List.mem_cons.mp hq with rfl | hq; exact hp; exact h.2 q hq⟩
theorem byteL_low {l : List Pk} {B a : Int} (h : ∀ q ∈ l, B < q.1) (ha : a ≤ B) : byteL l a = none :=
  byteL_none fun p hp => pcAt_out (.inl (by have := h p hp; omega))
theorem len_pos {p : Pk} (h : p.2 ≠ []) : 0 < (p.2.length : Int) := by
  have : 0 < p.2.length := List.length_pos_iff.mpr h
  omega

theorem good_eq : ∀ {l m : List Pk}, Good l → Good m → (∀ a, byteL l a = byteL m a) → l = m
  | [], [], _, _, _ => rfl
  | [], q :: m, _, hm, h => by
    obtain ⟨_, _, hq⟩ := good_cons hm
    obtain ⟨b, hb⟩ := pcAt_in (p := q) (a := q.1) (Int.le_refl _) (by have := len_pos hq; omega)
    have := h q.1
    rw [byteL, byteL, hb] at this
    cases this
  | p :: l, [], hl, _, h => by
    obtain ⟨_, _, hq⟩ := good_cons hl
    obtain ⟨b, hb⟩ := pcAt_in (p := p) (a := p.1) (Int.le_refl _) (by have := len_pos hq; omega)
    have := h p.1
    rw [byteL, byteL, hb] at this
    cases this
  | p :: l, q :: m, hl, hm, h => by
    obtain ⟨gl, bl, np⟩ := good_cons hl
    obtain ⟨gm, bm, nq⟩ := good_cons hm
    have lp := len_pos np
    have lq := len_pos nq
    have low1 : ∀ a, a < p.1 → byteL (p :: l) a = none := fun a ha => byteL_none fun r hr => by
      rcases List.mem_cons.mp hr with rfl | hr
      · exact pcAt_out (.inl ha)
      · exact pcAt_out (.inl (by have := bl r hr; unfold gap at this; omega))
    have low2 : ∀ a, a < q.1 → byteL (q :: m) a = none := fun a ha => byteL_none fun r hr => by
      rcases List.mem_cons.mp hr with rfl | hr
      · exact pcAt_out (.inl ha)
      · exact pcAt_out (.inl (by have := bm r hr; unfold gap at this; omega))
    have e1 : p.1 = q.1 := by
      rcases Int.lt_trichotomy p.1 q.1 with hlt | he | hlt
      · obtain ⟨b, hb⟩ := pcAt_in (p := p) (a := p.1) (Int.le_refl _) (by omega)
        have := h p.1
        rw [low2 _ hlt, byteL, hb] at this
        cases this
      · exact he
      · obtain ⟨b, hb⟩ := pcAt_in (p := q) (a := q.1) (Int.le_refl _) (by omega)
        have := h q.1
        rw [low1 _ hlt, byteL, hb] at this
        cases this
    have end1 : byteL (p :: l) (p.1 + (p.2.length : Int)) = none := by
      rw [byteL, pcAt_out (.inr (Int.le_refl _)), byteL_low (B := p.1 + (p.2.length : Int)) bl (Int.le_refl _)]; rfl
    have end2 : byteL (q :: m) (q.1 + (q.2.length : Int)) = none := by
      rw [byteL, pcAt_out (.inr (Int.le_refl _)), byteL_low (B := q.1 + (q.2.length : Int)) bm (Int.le_refl _)]; rfl
    have e2 : p.2.length = q.2.length := by
      rcases Nat.lt_trichotomy p.2.length q.2.length with hlt | he | hlt
      · obtain ⟨b, hb⟩ := pcAt_in (p := q) (a := p.1 + (p.2.length : Int)) (by omega) (by omega)
        have := h (p.1 + (p.2.length : Int))
        rw [end1, byteL, hb] at this
        cases this
      · exact he
      · obtain ⟨b, hb⟩ := pcAt_in (p := p) (a := q.1 + (q.2.length : Int)) (by omega) (by omega)
        have := h (q.1 + (q.2.length : Int))
        rw [end2, byteL, hb] at this
        cases this
    have e3 : p.2 = q.2 := by
      apply List.ext_getElem e2
      intro i h1 h2
      have := h (p.1 + (i : Int))
      rw [byteL, byteL, pcAt, pcAt, if_pos (by omega), if_pos (by omega), show (p.1 + (i : Int) - p.1).toNat = i by omega, show (p.1 + (i : Int) - q.1).toNat = i by omega, List.getElem?_eq_getElem h1, List.getElem?_eq_getElem h2] at this
      simpa using this
    have e4 : p = q := Prod.ext e1 e3
    subst e4
    rw [good_eq gl gm fun a => ?_]
    have := h a
    rw [byteL, byteL] at this
    by_cases ha : a ≤ p.1 + (p.2.length : Int)
    · rw [byteL_low bl ha, byteL_low bm ha]
    · rw [pcAt_out (.inr (by omega))] at this
      exact this

def scan (f : Int → Option UInt8) : Nat → Int → List UInt8 → List Pk → List Pk
  | 0, _, _, out => out
  | n + 1, a, now, out => match f a with
    | some b => scan f n (a + 1) (now ++ [b]) out
    | none => scan f n (a + 1) [] (if now = [] then out else out ++ [(a - (now.length : Int), now)])
def pend (a : Int) (now : List UInt8) (out : List Pk) : List Pk := if now = [] then out else out ++ [(a - (now.length : Int), now)]
theorem byteL_app : ∀ (l m : List Pk) (a : Int), byteL (l ++ m) a = (byteL l a).or (byteL m a)
  | [], m, a => by simp [byteL]
  | p :: l, m, a => by rw [List.cons_append, byteL, byteL, byteL_app l m a, Option.or_assoc]

theorem scan_good (f : Int → Option UInt8) (E : Int) (hE : ∀ a, E ≤ a → f a = none) : ∀ (n : Nat) (a : Int) (now : List UInt8) (out : List Pk), E < a + n → Good (pend a now out) →
    (∀ c, byteL (pend a now out) c = if c < a then f c else none) → (∀ p ∈ out, p.1 + (p.2.length : Int) < a - (now.length : Int)) → (n = 0 → now = []) →
    Good (scan f n a now out) ∧ ∀ c, byteL (scan f n a now out) c = f c
  | 0, a, now, out, hn, hg, hb, hl, h0 => by
    have hnow := h0 rfl
    subst hnow
    rw [pend, if_pos rfl] at hg hb
    rw [scan]
    refine ⟨hg, fun c => ?_⟩
    rw [hb c]
    split
    · rfl
    · exact (hE c (by omega)).symm
  | n + 1, a, now, out, hn, hg, hb, hl, h0 => by
    rw [scan]
    cases hf : f a with
    | some b =>
      simp only
      have hae : a < E := by
        rcases Int.lt_or_le a E with h | h
        · exact h
        · rw [hE a h] at hf; cases hf
      refine scan_good f E hE n (a + 1) (now ++ [b]) out (by omega) ?_ ?_ ?_ (fun h => by omega)
      · rw [pend, if_neg (by simp)]
        rw [pend] at hg
        refine ⟨?_, fun p hp => ?_⟩
        · rw [List.pairwise_append]
          refine ⟨?_, by simp, fun p hp q hq => ?_⟩
          · split at hg
            · exact hg.1
            · exact (List.pairwise_append.mp hg.1).1
          · simp at hq
            subst hq
            have := hl p hp
            unfold gap
            simp
            omega
        · rcases List.mem_append.mp hp with hp | hp
          · split at hg
            · exact hg.2 p hp
            · exact hg.2 p (by simp [hp])
          · simp at hp
            subst hp
            simp
      · intro c
        have hbc := hb c
        have hlow : ∀ d, a - (now.length : Int) ≤ d → byteL out d = none := fun d hd => byteL_none fun p hp => pcAt_out (.inr (by have := hl p hp; omega))
        rw [pend, if_neg (by simp), byteL_app]
        have hnew : byteL [(a + 1 - ((now ++ [b]).length : Int), now ++ [b])] c = if c = a then some b else if c < a then byteL [(a - (now.length : Int), now)] c else none := by
          have e : a + 1 - ((now ++ [b]).length : Int) = a - (now.length : Int) := by simp; omega
          rw [e]
          by_cases hc : c = a
          · subst hc
            rw [if_pos rfl, byteL, byteL, pcAt, if_pos (by simp only []; omega)]
            simp only []
            rw [show (c - (c - (now.length : Int))).toNat = now.length by omega]
            simp
          · rw [if_neg hc]
            by_cases hlt : c < a
            · rw [if_pos hlt, byteL, byteL, byteL, byteL, pcAt, pcAt]
              simp only []
              by_cases hge : a - (now.length : Int) ≤ c
              · rw [if_pos hge, if_pos hge, List.getElem?_append_left (by omega)]
              · rw [if_neg hge, if_neg hge]
            · rw [if_neg hlt, byteL, byteL, pcAt_out (.inr (by simp; omega))]
              rfl
        rw [hnew]
        by_cases hc : c = a
        · subst hc
          rw [if_pos rfl, hlow c (by omega), if_pos (by omega), hf]
          rfl
        · rw [if_neg hc]
          by_cases hlt : c < a
          · rw [if_pos hlt, if_pos (by omega)]
            rw [if_pos hlt] at hbc
            rw [← hbc, pend]
            split
            · rename_i hn0
              subst hn0
              rw [byteL, byteL, pcAt_out (by simp; omega)]
              simp
            · rw [byteL_app]
          · rw [if_neg hlt, if_neg (by omega), hlow c (by omega)]
            rfl
      · intro p hp
        have := hl p hp
        simp
        omega
    | none =>
      simp only
      have e : (if now = [] then out else out ++ [(a - (now.length : Int), now)]) = pend a now out := rfl
      rw [e]
      refine scan_good f E hE n (a + 1) [] (pend a now out) (by omega) (by rw [pend, if_pos rfl]; exact hg) ?_ ?_ (fun _ => rfl)
      · intro c
        rw [show pend (a + 1) [] (pend a now out) = pend a now out from if_pos rfl, hb c]
        by_cases hc : c < a
        · rw [if_pos hc, if_pos (by omega)]
        · rw [if_neg hc]
          by_cases hc2 : c = a
          · subst hc2; rw [if_pos (by omega), hf]
          · rw [if_neg (by omega)]
      · intro p hp
        rw [pend] at hp
        simp
        split at hp
        · rename_i hn0; subst hn0; have := hl p hp; simp at this; omega
        · rcases List.mem_append.mp hp with hp | hp
          · have := hl p hp; omega
          · simp at hp; subst hp; simp; omega

def overP (p x : Pk) : Pk :=
  (min p.1 x.1, x.2.take (max 0 (p.1 - x.1)).toNat ++ p.2 ++ x.2.drop (x.2.length - (max 0 (x.1 + (x.2.length : Int) - (p.1 + (p.2.length : Int)))).toNat))
def mergeR : List Pk → Pk → List Pk
  | [], x => [x]
  | p :: l, x => if p.1 ≤ x.1 + (x.2.length : Int) then mergeR l (overP p x) else x :: p :: l
def withL : List Pk → Pk → List Pk
  | [], x => [x]
  | p :: l, x => if p.1 + (p.2.length : Int) < x.1 then p :: withL l x else mergeR (p :: l) x

theorem over_len {p x : Pk} (h0 : p.1 ≤ x.1 + (x.2.length : Int)) (h1 : x.1 ≤ p.1 + (p.2.length : Int)) :
    ((overP p x).2.length : Int) = max (x.1 + (x.2.length : Int)) (p.1 + (p.2.length : Int)) - min p.1 x.1 := by
  simp only [overP, List.length_append, List.length_take, List.length_drop]
  omega
theorem over_at {p x : Pk} (h0 : p.1 ≤ x.1 + (x.2.length : Int)) (h1 : x.1 ≤ p.1 + (p.2.length : Int)) (a : Int) : pcAt (overP p x) a = (pcAt p a).or (pcAt x a) := by
  have hlen := over_len h0 h1
  by_cases ha : a < min p.1 x.1
  · rw [pcAt_out (.inl ha), pcAt_out (.inl (by omega)), pcAt_out (.inl (by omega))]; rfl
  · by_cases hb : max (x.1 + (x.2.length : Int)) (p.1 + (p.2.length : Int)) ≤ a
    · rw [pcAt_out (.inr (by rw [hlen]; show _ ≤ _; simp only [overP]; omega)), pcAt_out (.inr (by omega)), pcAt_out (.inr (by omega))]; rfl
    · have t1 : (x.2.take (max 0 (p.1 - x.1)).toNat).length = (max 0 (p.1 - x.1)).toNat := by rw [List.length_take]; omega
      by_cases hp0 : a < p.1
      · have hx0 : x.1 ≤ a := by omega
        rw [pcAt_out (p := p) (.inl hp0), Option.none_or]
        unfold pcAt overP
        simp only []
        rw [if_pos (by omega), if_pos hx0, List.append_assoc, List.getElem?_append_left (by omega), List.getElem?_take, if_pos (by omega)]
        congr 1
        omega
      · by_cases hp1 : a < p.1 + (p.2.length : Int)
        · obtain ⟨b, hbb⟩ := pcAt_in (p := p) (by omega) hp1
          rw [hbb, Option.some_or]
          unfold pcAt at hbb
          rw [if_pos (by omega)] at hbb
          unfold pcAt overP
          simp only []
          rw [if_pos (by omega), List.append_assoc, List.getElem?_append_right (by omega), List.getElem?_append_left (by omega), ← hbb]
          congr 1
          omega
        · rw [pcAt_out (p := p) (.inr (by omega)), Option.none_or]
          unfold pcAt overP
          simp only []
          rw [if_pos (by omega), if_pos (by omega), List.getElem?_append_right (by rw [List.length_append]; omega), List.getElem?_drop]
          congr 1
          rw [List.length_append]
          omega
theorem merge_low {B : Int} : ∀ (l : List Pk) (x : Pk), B < x.1 → (∀ p ∈ l, B < p.1) → ∀ q ∈ mergeR l x, B < q.1
  | [], x, hx, _, q, hq => by simp [mergeR] at hq; subst hq; exact hx
  | p :: l, x, hx, hl, q, hq => by
    rw [mergeR] at hq
    split at hq
    · have := hl p (by simp)
      exact merge_low l (overP p x) (by simp only [overP]; omega) (fun r hr => hl r (by simp [hr])) q hq
    · rcases List.mem_cons.mp hq with rfl | hq
      · exact hx
      · exact hl q hq
theorem with_low {B : Int} : ∀ (l : List Pk) (x : Pk), B < x.1 → (∀ p ∈ l, B < p.1) → ∀ q ∈ withL l x, B < q.1
  | [], x, hx, _, q, hq => by simp [withL] at hq; subst hq; exact hx
  | p :: l, x, hx, hl, q, hq => by
    rw [withL] at hq
    split at hq
    · rcases List.mem_cons.mp hq with rfl | hq
      · exact hl q (by simp)
      · exact with_low l x hx (fun r hr => hl r (by simp [hr])) q hq
    · exact merge_low (p :: l) x hx hl q hq
theorem merge_good : ∀ (l : List Pk) (x : Pk), Good l → x.2 ≠ [] → (∀ p ∈ l, x.1 ≤ p.1 + (p.2.length : Int)) → Good (mergeR l x) ∧ ∀ a, byteL (mergeR l x) a = (byteL l a).or (pcAt x a)
  | [], x, _, hx, _ => by
    refine ⟨⟨by simp [mergeR], fun p hp => by simp [mergeR] at hp; subst hp; exact hx⟩, fun a => ?_⟩
    simp [mergeR, byteL]
  | p :: l, x, hl, hx, hh => by
    obtain ⟨gl, bl, np⟩ := good_cons hl
    have lp := len_pos np
    rw [mergeR]
    split
    · rename_i hle
      have h1 := hh p (by simp)
      have hlen := over_len hle h1
      have hne : (overP p x).2 ≠ [] := fun e => by rw [e] at hlen; simp at hlen; omega
      obtain ⟨g, b⟩ := merge_good l (overP p x) gl hne (fun q hq => by have := bl q hq; unfold gap at this; simp only [overP]; omega)
      refine ⟨g, fun a => ?_⟩
      rw [b a, over_at hle h1, byteL]
      cases hpa : pcAt p a with
      | none => simp
      | some c =>
        have hs := pcAt_some hpa
        rw [byteL_low (B := p.1 + (p.2.length : Int)) bl (by omega)]
        simp
    · rename_i hle
      refine ⟨good_mk hl (fun q hq => ?_) hx, fun a => ?_⟩
      · unfold gap
        rcases List.mem_cons.mp hq with rfl | hq
        · omega
        · have := bl q hq
          unfold gap at this
          omega
      · rw [byteL]
        cases hxa : pcAt x a with
        | none => simp
        | some c =>
          have hs := pcAt_some hxa
          rw [byteL_low (l := p :: l) (B := x.1 + (x.2.length : Int)) (fun q hq => by
            rcases List.mem_cons.mp hq with rfl | hq
            · omega
            · have := bl q hq
              unfold gap at this
              omega) (by omega)]
          simp
theorem with_good : ∀ (l : List Pk) (x : Pk), Good l → x.2 ≠ [] → Good (withL l x) ∧ ∀ a, byteL (withL l x) a = (byteL l a).or (pcAt x a)
  | [], x, _, hx => by
    refine ⟨⟨by simp [withL], fun p hp => by simp [withL] at hp; subst hp; exact hx⟩, fun a => ?_⟩
    simp [withL, byteL]
  | p :: l, x, hl, hx => by
    obtain ⟨gl, bl, np⟩ := good_cons hl
    rw [withL]
    split
    · rename_i hlt
      obtain ⟨g, b⟩ := with_good l x gl hx
      refine ⟨good_mk g (with_low l x hlt bl) np, fun a => ?_⟩
      rw [byteL, byteL, b a, Option.or_assoc]
    · rename_i hlt
      refine merge_good (p :: l) x hl hx fun q hq => ?_
      rcases List.mem_cons.mp hq with rfl | hq
      · omega
      · have := bl q hq
        unfold gap at this
        omega
theorem with_len : ∀ (l : List Pk) (x : Pk), (withL l x).length ≤ l.length + 1
  | [], x => by simp [withL]
  | p :: l, x => by
    rw [withL]
    have hm : ∀ (l : List Pk) (x : Pk), (mergeR l x).length ≤ l.length + 1 := by
      intro l
      induction l with
      | nil => intro x; simp [mergeR]
      | cons p l ih =>
        intro x
        rw [mergeR]
        split
        · have := ih (overP p x); simp; omega
        · simp
    split
    · have := with_len l x; simp; omega
    · exact hm _ _

theorem good_of : ∀ {l : List Pk}, (∀ x ∈ l, 1 ≤ x.2.length) → Apart l → Good l
  | [], _, _ => ⟨by simp, by simp⟩
  | p :: l, h1, ha => by
    have g : Good l := good_of (fun x hx => h1 x (by simp [hx])) fun i hi => by
      have := ha (i + 1) (by simp; omega)
      simpa using this
    refine good_mk g (fun q hq => ?_) (fun e => by have := h1 p (by simp); rw [e] at this; simp at this)
    cases l with
    | nil => cases hq
    | cons q0 l =>
      have h0 := ha 0 (by simp)
      simp only [List.getElem_cons_zero, List.getElem_cons_succ] at h0
      obtain ⟨_, b, _⟩ := good_cons g
      unfold gap
      rcases List.mem_cons.mp hq with rfl | hq
      · exact h0
      · have := b q hq
        unfold gap at this
        omega
theorem apart_of : ∀ {l : List Pk}, Good l → Apart l
  | [], _ => fun i h => absurd h (by simp)
  | p :: l, hg => by
    obtain ⟨g, b, _⟩ := good_cons hg
    intro i h
    cases i with
    | zero => simpa [gap] using b _ (List.getElem_mem (by simpa using h))
    | succ i => simpa using apart_of g i (by simpa using h)
theorem PcsP.good {l : List Pk} (h : PcsP l) : Good l := good_of (fun x hx => (h.2.1 x hx).2.2.1) h.2.2
def endL (l : List Pk) : Int := match l.getLast? with | none => 0 | some p => p.1 + (p.2.length : Int)
theorem end_le : ∀ {l : List Pk}, Good l → ∀ p ∈ l, p.1 + (p.2.length : Int) ≤ endL l
  | [], _, p, hp => by cases hp
  | [p0], _, p, hp => by simp at hp; subst hp; simp [endL]
  | p0 :: q :: l, hg, p, hp => by
    obtain ⟨g, b, _⟩ := good_cons hg
    have e : endL (p0 :: q :: l) = endL (q :: l) := by simp [endL]
    rw [e]
    rcases List.mem_cons.mp hp with rfl | hp
    · have h1 := end_le g q (by simp)
      have h2 := b q (by simp)
      unfold gap at h2
      omega
    · exact end_le g p hp
def addF (l : List Pk) (x : Pk) (a : Int) : Option UInt8 := (byteL l a).or (pcAt x a)
theorem scan_with {l : List Pk} {x : Pk} {E : Int} (hg : Good l) (h0 : ∀ p ∈ l, 0 ≤ p.1) (hx : x.2 ≠ []) (hx0 : 0 ≤ x.1) (hE : E = max (endL l) (x.1 + (x.2.length : Int))) :
    scan (addF l x) (E + 1).toNat 0 [] [] = withL l x := by
  have hx1 := len_pos hx
  obtain ⟨g1, b1⟩ := with_good l x hg hx
  obtain ⟨g2, b2⟩ := scan_good (addF l x) E (fun a ha => by
    rw [addF, pcAt_out (.inr (by omega)), byteL_none fun p hp => pcAt_out (.inr (by have := end_le hg p hp; omega))]
    rfl) (E + 1).toNat 0 [] [] (by omega) (by rw [pend, if_pos rfl]; exact ⟨by simp, by simp⟩) (fun c => by
      rw [pend, if_pos rfl, byteL]
      split
      · rw [addF, pcAt_out (.inl (by omega)), byteL_none fun p hp => pcAt_out (.inl (by have := h0 p hp; omega))]; rfl
      · rfl) (by simp) (fun h => by omega)
  exact good_eq g2 g1 fun a => (b2 a).trans (b1 a).symm

end Go.Proofs.Yteffpcgmoegomaa.P7
