/- Pcs PcOk PcMath PcOkS PcKn -/
import Derived.Test.YtedhemllgpbheaaQ7
import Derived.Deep.RegionHeld3
namespace Go.Proofs.Ytedhemllgpbheaa.P7
open Go.RowKit

theorem grownBy_drew {a : World} {r : Option Nat} : a.grownBy a.drew r := ⟨rfl, rfl, rfl, Nat.le_refl _, fun _ _ _ => rfl⟩

abbrev Pk := Int × List UInt8
/-- The packets of a slice, in cells. -/
def PkAt (w : World) (a : Option Addr) (l : List Pk) : Prop :=
  l = [] ∨ ∃ b off, a = some ⟨b, off, none⟩ ∧ b < w.heap.size ∧ ∀ i (h : i < l.length), w.cell? ⟨b, off + i * 2, none⟩ = some (.int .i64 (l[i]).1) ∧ w.cell? ⟨b, off + i * 2 + 1, none⟩ = some (.string ⟨(l[i]).2.toArray⟩)
theorem PkAt.kept {w w' : World} {a : Option Addr} {l : List Pk} (h : PkAt w a l) (hg : w.grownBy w' none) : PkAt w' a l := by
  rcases h with h | ⟨b, off, ha, hb, hc⟩
  · exact .inl h
  · exact .inr ⟨b, off, ha, Nat.lt_of_lt_of_le hb hg.size, fun i hi => ⟨hg.cell (hc i hi).1 (by simp), hg.cell (hc i hi).2 (by simp)⟩⟩

theorem all_next {α : Type} {P : α → Prop} (l : List α) (j : Nat) (h : j < l.length) (ha : ∀ x ∈ l.take j, P x) (hx : P l[j]) : ∀ x ∈ l.take (j + 1), P x := by
  intro x hm
  rw [List.take_succ_eq_append_getElem h, List.mem_append, List.mem_singleton] at hm
  rcases hm with hm | rfl
  · exact ha x hm
  · exact hx

def pkV (p : Pk) : List Value := [.int .i64 p.1, .string ⟨p.2.toArray⟩]
def pksV (l : List Pk) : List Value := l.flatMap pkV
theorem pksV_len : ∀ l : List Pk, (pksV l).length = l.length * 2
  | [] => rfl
  | p :: l => by
    have := pksV_len l
    simp only [pksV, List.flatMap_cons, List.length_append, List.length_cons] at this ⊢
    rw [this]
    simp [pkV]
    omega
theorem pksV_get : ∀ (l : List Pk) (i : Nat) (h : i < l.length), (pksV l)[i * 2]? = some (.int .i64 (l[i]).1) ∧ (pksV l)[i * 2 + 1]? = some (.string ⟨(l[i]).2.toArray⟩)
  | p :: l, 0, _ => by simp [pksV, pkV]
  | p :: l, i + 1, h => by
    have a := pksV_get l i (by simpa using h)
    have e : pksV (p :: l) = .int .i64 p.1 :: .string ⟨p.2.toArray⟩ :: pksV l := rfl
    rw [e, show (i + 1) * 2 = i * 2 + 1 + 1 from by omega]
    simpa using a
theorem pkAt_own {w : World} {base : Nat} {e : TypeId} {g n c : Nat} {l : List Pk} (h : w.ownsRow base e 2 (.slice (some ⟨g, 0, none⟩) n c) n (pksV l)) (hn : n = l.length) : PkAt w (some ⟨g, 0, none⟩) l := by
  subst hn
  refine .inr ⟨g, 0, rfl, (h.lt g rfl).2, fun i hi => ?_⟩
  obtain ⟨a, b⟩ := pksV_get l i hi
  rw [Nat.zero_add, h.cellAt (i * 2) (by omega), h.cellAt (i * 2 + 1) (by omega)]
  exact ⟨a, b⟩

theorem infoPk : (Try.prog.info? 73).map (fun i => (i.zero, i.size, i.bytes)) = some (some (.agg #[.int .i64 0, .string ⟨#[]⟩]), 2, 24) := by kernel_rfl

theorem info_of {T : TypeId} {z : Value} {s b : Nat} (h : (Try.prog.info? T).map (fun i => (i.zero, i.size, i.bytes)) = some (some z, s, b)) : ∃ i, Try.prog.info? T = some i ∧ i.zero = some z ∧ i.size = s ∧ i.bytes = b := by
  cases hi : Try.prog.info? T with
  | none => rw [hi] at h; cases h
  | some i =>
    rw [hi] at h
    simp at h
    exact ⟨i, rfl, h.1, h.2.1, h.2.2⟩

end Go.Proofs.Ytedhemllgpbheaa.P7

namespace Go.Proofs.Ytedhemllgpbheaa.P7
open Go.RowKit

def pc1 (p : Pk) : Prop := 0 ≤ p.1 ∧ p.1 ≤ 6000 ∧ 1 ≤ p.2.length ∧ p.2.length ≤ 6000
def Apart (l : List Pk) : Prop := ∀ i (h : i + 1 < l.length), (l[i]'(by omega)).1 + ((l[i]'(by omega)).2.length : Int) < (l[i + 1]'h).1
def PcsP (l : List Pk) : Prop := l.length ≤ 60 ∧ (∀ x ∈ l, pc1 x) ∧ Apart l
noncomputable def pcsOk (l : List Pk) : Bool := @decide (PcsP l) (Classical.propDecidable _)
theorem pcs_yes {l : List Pk} (h : PcsP l) : pcsOk l = true := by simpa [pcsOk] using h
theorem pcs_no {l : List Pk} (h : ¬ PcsP l) : pcsOk l = false := by simpa [pcsOk] using h
theorem pcs_of {l : List Pk} (h : pcsOk l = true) : PcsP l := by simpa [pcsOk] using h
theorem pcs_not {l : List Pk} (h : pcsOk l = false) : ¬ PcsP l := by simpa [pcsOk] using h
def ApartTo (l : List Pk) (j : Nat) : Prop := ∀ i (h : i + 1 < l.length), i + 1 < j → (l[i]'(by omega)).1 + ((l[i]'(by omega)).2.length : Int) < (l[i + 1]'h).1

end Go.Proofs.Ytedhemllgpbheaa.P7

namespace Go.Proofs.Ytedhemllgpbheaa.P7
open Go.RowKit

def pcAt (p : Pk) (a : Int) : Option UInt8 := if p.1 ≤ a then p.2[(a - p.1).toNat]? else none
def byteL : List Pk → Int → Option UInt8
  | [], _ => none
  | p :: l, a => (pcAt p a).or (byteL l a)
def gap (p q : Pk) : Prop := p.1 + (p.2.length : Int) < q.1
def Good (l : List Pk) : Prop := l.Pairwise gap ∧ ∀ p ∈ l, p.2 ≠ []

theorem pcAt_some {p : Pk} {a : Int} {b : UInt8} (h : pcAt p a = some b) : p.1 ≤ a ∧ a < p.1 + (p.2.length : Int) := by
  unfold pcAt at h
  split at h
  · obtain ⟨hlt, _⟩ := List.getElem?_eq_some_iff.mp h
    omega
  · cases h
theorem pcAt_in {p : Pk} {a : Int} (h0 : p.1 ≤ a) (h1 : a < p.1 + (p.2.length : Int)) : ∃ b, pcAt p a = some b := by
  unfold pcAt
  rw [if_pos h0]
  exact ⟨_, List.getElem?_eq_getElem (by omega)⟩
theorem pcAt_out {p : Pk} {a : Int} (h : a < p.1 ∨ p.1 + (p.2.length : Int) ≤ a) : pcAt p a = none := by
  cases h' : pcAt p a with
  | none => rfl
  | some b => have := pcAt_some h'; omega
theorem byteL_some {b : UInt8} : ∀ {l : List Pk} {a : Int}, byteL l a = some b → ∃ p ∈ l, pcAt p a = some b
  | [], _, h => by cases h
  | p :: l, a, h => by
    rw [byteL] at h
    cases h' : pcAt p a with
    | some c => rw [h'] at h; exact ⟨p, by simp, by rw [h']; exact h⟩
    | none =>
      rw [h'] at h
      obtain ⟨q, hq, hb⟩ := byteL_some h
      exact ⟨q, by simp [hq], hb⟩
theorem byteL_none {l : List Pk} {a : Int} (h : ∀ p ∈ l, pcAt p a = none) : byteL l a = none := by
  cases h' : byteL l a with
  | none => rfl
  | some b => obtain ⟨p, hp, hb⟩ := byteL_some h'; rw [h p hp] at hb; cases hb
theorem good_cons {p : Pk} {l : List Pk} (h : Good (p :: l)) : Good l ∧ (∀ q ∈ l, gap p q) ∧ p.2 ≠ [] :=
  ⟨⟨(List.pairwise_cons.mp h.1).2, fun q hq => h.2 q (by simp [hq])⟩, (List.pairwise_cons.mp h.1).1, h.2 p (by simp)⟩
theorem good_mk {p : Pk} {l : List Pk} (h : Good l) (hg : ∀ q ∈ l, gap p q) (hp : p.2 ≠ []) : Good (p :: l) :=
  ⟨List.pairwise_cons.mpr ⟨hg, h.1⟩, fun q hq => by rcases List.mem_cons.mp hq with rfl | hq; exact hp; exact h.2 q hq⟩
theorem byteL_low {l : List Pk} {B a : Int} (h : ∀ q ∈ l, B < q.1) (ha : a ≤ B) : byteL l a = none :=
  byteL_none fun p hp => pcAt_out (.inl (by have := h p hp; omega))
theorem len_pos {p : Pk} (h : p.2 ≠ []) : 0 < (p.2.length : Int) := by
  have : 0 < p.2.length := List.length_pos_iff.mpr h
  omega

theorem good_eq : ∀ {l m : List Pk}, Good l → Good m → (∀ a, byteL l a = byteL m a) → l = m
  | [], [], _, _, _ => rfl
  | [], q :: m, _, hm, h => by
    obtain ⟨_, _, hq⟩ := good_cons hm
    obtain ⟨b, hb⟩ := pcAt_in (p := q) (a := q.1) (Int.le_refl _) (by have := len_pos hq; omega)
    have := h q.1
    rw [byteL, byteL, hb] at this
    cases this
  | p :: l, [], hl, _, h => by
    obtain ⟨_, _, hq⟩ := good_cons hl
    obtain ⟨b, hb⟩ := pcAt_in (p := p) (a := p.1) (Int.le_refl _) (by have := len_pos hq; omega)
    have := h p.1
    rw [byteL, byteL, hb] at this
    cases this
  | p :: l, q :: m, hl, hm, h => by
    obtain ⟨gl, bl, np⟩ := good_cons hl
    obtain ⟨gm, bm, nq⟩ := good_cons hm
    have lp := len_pos np
    have lq := len_pos nq
    have low1 : ∀ a, a < p.1 → byteL (p :: l) a = none := fun a ha => byteL_none fun r hr => by
      rcases List.mem_cons.mp hr with rfl | hr
      · exact pcAt_out (.inl ha)
      · exact pcAt_out (.inl (by have := bl r hr; unfold gap at this; omega))
    have low2 : ∀ a, a < q.1 → byteL (q :: m) a = none := fun a ha => byteL_none fun r hr => by
      rcases List.mem_cons.mp hr with rfl | hr
      · exact pcAt_out (.inl ha)
      · exact pcAt_out (.inl (by have := bm r hr; unfold gap at this; omega))
    have e1 : p.1 = q.1 := by
      rcases Int.lt_trichotomy p.1 q.1 with hlt | he | hlt
      · obtain ⟨b, hb⟩ := pcAt_in (p := p) (a := p.1) (Int.le_refl _) (by omega)
        have := h p.1
        rw [low2 _ hlt, byteL, hb] at this
        cases this
      · exact he
      · obtain ⟨b, hb⟩ := pcAt_in (p := q) (a := q.1) (Int.le_refl _) (by omega)
        have := h q.1
        rw [low1 _ hlt, byteL, hb] at this
        cases this
    have end1 : byteL (p :: l) (p.1 + (p.2.length : Int)) = none := by
      rw [byteL, pcAt_out (.inr (Int.le_refl _)), byteL_low (B := p.1 + (p.2.length : Int)) bl (Int.le_refl _)]; rfl
    have end2 : byteL (q :: m) (q.1 + (q.2.length : Int)) = none := by
      rw [byteL, pcAt_out (.inr (Int.le_refl _)), byteL_low (B := q.1 + (q.2.length : Int)) bm (Int.le_refl _)]; rfl
    have e2 : p.2.length = q.2.length := by
      rcases Nat.lt_trichotomy p.2.length q.2.length with hlt | he | hlt
      · obtain ⟨b, hb⟩ := pcAt_in (p := q) (a := p.1 + (p.2.length : Int)) (by omega) (by omega)
        have := h (p.1 + (p.2.length : Int))
        rw [end1, byteL, hb] at this
        cases this
      · exact he
      · obtain ⟨b, hb⟩ := pcAt_in (p := p) (a := q.1 + (q.2.length : Int)) (by omega) (by omega)
        have := h (q.1 + (q.2.length : Int))
        rw [end2, byteL, hb] at this
        cases this
    have e3 : p.2 = q.2 := by
      apply List.ext_getElem e2
      intro i h1 h2
      have := h (p.1 + (i : Int))
      rw [byteL, byteL, pcAt, pcAt, if_pos (by omega), if_pos (by omega), show (p.1 + (i : Int) - p.1).toNat = i by omega, show (p.1 + (i : Int) - q.1).toNat = i by omega, List.getElem?_eq_getElem h1, List.getElem?_eq_getElem h2] at this
      simpa using this
    have e4 : p = q := Prod.ext e1 e3
    subst e4
    rw [good_eq gl gm fun a => ?_]
    have := h a
    rw [byteL, byteL] at this
    by_cases ha : a ≤ p.1 + (p.2.length : Int)
    · rw [byteL_low bl ha, byteL_low bm ha]
    · rw [pcAt_out (.inr (by omega))] at this
      exact this

def scan (f : Int → Option UInt8) : Nat → Int → List UInt8 → List Pk → List Pk
  | 0, _, _, out => out
  | n + 1, a, now, out => match f a with
    | some b => scan f n (a + 1) (now ++ [b]) out
    | none => scan f n (a + 1) [] (if now = [] then out else out ++ [(a - (now.length : Int), now)])
def pend (a : Int) (now : List UInt8) (out : List Pk) : List Pk := if now = [] then out else out ++ [(a - (now.length : Int), now)]
theorem byteL_app : ∀ (l m : List Pk) (a : Int), byteL (l ++ m) a = (byteL l a).or (byteL m a)
  | [], m, a => by simp [byteL]
  | p :: l, m, a => by rw [List.cons_append, byteL, byteL, byteL_app l m a, Option.or_assoc]

theorem scan_good (f : Int → Option UInt8) (E : Int) (hE : ∀ a, E ≤ a → f a = none) : ∀ (n : Nat) (a : Int) (now : List UInt8) (out : List Pk), E < a + n → Good (pend a now out) →
    (∀ c, byteL (pend a now out) c = if c < a then f c else none) → (∀ p ∈ out, p.1 + (p.2.length : Int) < a - (now.length : Int)) → (n = 0 → now = []) →
    Good (scan f n a now out) ∧ ∀ c, byteL (scan f n a now out) c = f c
  | 0, a, now, out, hn, hg, hb, hl, h0 => by
    have hnow := h0 rfl
    subst hnow
    rw [pend, if_pos rfl] at hg hb
    rw [scan]
    refine ⟨hg, fun c => ?_⟩
    rw [hb c]
    split
    · rfl
    · exact (hE c (by omega)).symm
  | n + 1, a, now, out, hn, hg, hb, hl, h0 => by
    rw [scan]
    cases hf : f a with
    | some b =>
      simp only
      have hae : a < E := by
        rcases Int.lt_or_le a E with h | h
        · exact h
        · rw [hE a h] at hf; cases hf
      refine scan_good f E hE n (a + 1) (now ++ [b]) out (by omega) ?_ ?_ ?_ (fun h => by omega)
      · rw [pend, if_neg (by simp)]
        rw [pend] at hg
        refine ⟨?_, fun p hp => ?_⟩
        · rw [List.pairwise_append]
          refine ⟨?_, by simp, fun p hp q hq => ?_⟩
          · split at hg
            · exact hg.1
            · exact (List.pairwise_append.mp hg.1).1
          · simp at hq
            subst hq
            have := hl p hp
            unfold gap
            simp
            omega
        · rcases List.mem_append.mp hp with hp | hp
          · split at hg
            · exact hg.2 p hp
            · exact hg.2 p (by simp [hp])
          · simp at hp
            subst hp
            simp
      · intro c
        have hbc := hb c
        have hlow : ∀ d, a - (now.length : Int) ≤ d → byteL out d = none := fun d hd => byteL_none fun p hp => pcAt_out (.inr (by have := hl p hp; omega))
        rw [pend, if_neg (by simp), byteL_app]
        have hnew : byteL [(a + 1 - ((now ++ [b]).length : Int), now ++ [b])] c = if c = a then some b else if c < a then byteL [(a - (now.length : Int), now)] c else none := by
          have e : a + 1 - ((now ++ [b]).length : Int) = a - (now.length : Int) := by simp; omega
          rw [e]
          by_cases hc : c = a
          · subst hc
            rw [if_pos rfl, byteL, byteL, pcAt, if_pos (by simp only []; omega)]
            simp only []
            rw [show (c - (c - (now.length : Int))).toNat = now.length by omega]
            simp
          · rw [if_neg hc]
            by_cases hlt : c < a
            · rw [if_pos hlt, byteL, byteL, byteL, byteL, pcAt, pcAt]
              simp only []
              by_cases hge : a - (now.length : Int) ≤ c
              · rw [if_pos hge, if_pos hge, List.getElem?_append_left (by omega)]
              · rw [if_neg hge, if_neg hge]
            · rw [if_neg hlt, byteL, byteL, pcAt_out (.inr (by simp; omega))]
              rfl
        rw [hnew]
        by_cases hc : c = a
        · subst hc
          rw [if_pos rfl, hlow c (by omega), if_pos (by omega), hf]
          rfl
        · rw [if_neg hc]
          by_cases hlt : c < a
          · rw [if_pos hlt, if_pos (by omega)]
            rw [if_pos hlt] at hbc
            rw [← hbc, pend]
            split
            · rename_i hn0
              subst hn0
              rw [byteL, byteL, pcAt_out (by simp; omega)]
              simp
            · rw [byteL_app]
          · rw [if_neg hlt, if_neg (by omega), hlow c (by omega)]
            rfl
      · intro p hp
        have := hl p hp
        simp
        omega
    | none =>
      simp only
      have e : (if now = [] then out else out ++ [(a - (now.length : Int), now)]) = pend a now out := rfl
      rw [e]
      refine scan_good f E hE n (a + 1) [] (pend a now out) (by omega) (by rw [pend, if_pos rfl]; exact hg) ?_ ?_ (fun _ => rfl)
      · intro c
        rw [show pend (a + 1) [] (pend a now out) = pend a now out from if_pos rfl, hb c]
        by_cases hc : c < a
        · rw [if_pos hc, if_pos (by omega)]
        · rw [if_neg hc]
          by_cases hc2 : c = a
          · subst hc2; rw [if_pos (by omega), hf]
          · rw [if_neg (by omega)]
      · intro p hp
        rw [pend] at hp
        simp
        split at hp
        · rename_i hn0; subst hn0; have := hl p hp; simp at this; omega
        · rcases List.mem_append.mp hp with hp | hp
          · have := hl p hp; omega
          · simp at hp; subst hp; simp; omega

def overP (p x : Pk) : Pk :=
  (min p.1 x.1, x.2.take (max 0 (p.1 - x.1)).toNat ++ p.2 ++ x.2.drop (x.2.length - (max 0 (x.1 + (x.2.length : Int) - (p.1 + (p.2.length : Int)))).toNat))
def mergeR : List Pk → Pk → List Pk
  | [], x => [x]
  | p :: l, x => if p.1 ≤ x.1 + (x.2.length : Int) then mergeR l (overP p x) else x :: p :: l
def withL : List Pk → Pk → List Pk
  | [], x => [x]
  | p :: l, x => if p.1 + (p.2.length : Int) < x.1 then p :: withL l x else mergeR (p :: l) x

theorem over_len {p x : Pk} (h0 : p.1 ≤ x.1 + (x.2.length : Int)) (h1 : x.1 ≤ p.1 + (p.2.length : Int)) :
    ((overP p x).2.length : Int) = max (x.1 + (x.2.length : Int)) (p.1 + (p.2.length : Int)) - min p.1 x.1 := by
  simp only [overP, List.length_append, List.length_take, List.length_drop]
  omega
theorem over_at {p x : Pk} (h0 : p.1 ≤ x.1 + (x.2.length : Int)) (h1 : x.1 ≤ p.1 + (p.2.length : Int)) (a : Int) : pcAt (overP p x) a = (pcAt p a).or (pcAt x a) := by
  have hlen := over_len h0 h1
  by_cases ha : a < min p.1 x.1
  · rw [pcAt_out (.inl ha), pcAt_out (.inl (by omega)), pcAt_out (.inl (by omega))]; rfl
  · by_cases hb : max (x.1 + (x.2.length : Int)) (p.1 + (p.2.length : Int)) ≤ a
    · rw [pcAt_out (.inr (by rw [hlen]; show _ ≤ _; simp only [overP]; omega)), pcAt_out (.inr (by omega)), pcAt_out (.inr (by omega))]; rfl
    · have t1 : (x.2.take (max 0 (p.1 - x.1)).toNat).length = (max 0 (p.1 - x.1)).toNat := by rw [List.length_take]; omega
      by_cases hp0 : a < p.1
      · have hx0 : x.1 ≤ a := by omega
        rw [pcAt_out (p := p) (.inl hp0), Option.none_or]
        unfold pcAt overP
        simp only []
        rw [if_pos (by omega), if_pos hx0, List.append_assoc, List.getElem?_append_left (by omega), List.getElem?_take, if_pos (by omega)]
        congr 1
        omega
      · by_cases hp1 : a < p.1 + (p.2.length : Int)
        · obtain ⟨b, hbb⟩ := pcAt_in (p := p) (by omega) hp1
          rw [hbb, Option.some_or]
          unfold pcAt at hbb
          rw [if_pos (by omega)] at hbb
          unfold pcAt overP
          simp only []
          rw [if_pos (by omega), List.append_assoc, List.getElem?_append_right (by omega), List.getElem?_append_left (by omega), ← hbb]
          congr 1
          omega
        · rw [pcAt_out (p := p) (.inr (by omega)), Option.none_or]
          unfold pcAt overP
          simp only []
          rw [if_pos (by omega), if_pos (by omega), List.getElem?_append_right (by rw [List.length_append]; omega), List.getElem?_drop]
          congr 1
          rw [List.length_append]
          omega
theorem merge_low {B : Int} : ∀ (l : List Pk) (x : Pk), B < x.1 → (∀ p ∈ l, B < p.1) → ∀ q ∈ mergeR l x, B < q.1
  | [], x, hx, _, q, hq => by simp [mergeR] at hq; subst hq; exact hx
  | p :: l, x, hx, hl, q, hq => by
    rw [mergeR] at hq
    split at hq
    · have := hl p (by simp)
      exact merge_low l (overP p x) (by simp only [overP]; omega) (fun r hr => hl r (by simp [hr])) q hq
    · rcases List.mem_cons.mp hq with rfl | hq
      · exact hx
      · exact hl q hq
theorem with_low {B : Int} : ∀ (l : List Pk) (x : Pk), B < x.1 → (∀ p ∈ l, B < p.1) → ∀ q ∈ withL l x, B < q.1
  | [], x, hx, _, q, hq => by simp [withL] at hq; subst hq; exact hx
  | p :: l, x, hx, hl, q, hq => by
    rw [withL] at hq
    split at hq
    · rcases List.mem_cons.mp hq with rfl | hq
      · exact hl q (by simp)
      · exact with_low l x hx (fun r hr => hl r (by simp [hr])) q hq
    · exact merge_low (p :: l) x hx hl q hq
theorem merge_good : ∀ (l : List Pk) (x : Pk), Good l → x.2 ≠ [] → (∀ p ∈ l, x.1 ≤ p.1 + (p.2.length : Int)) → Good (mergeR l x) ∧ ∀ a, byteL (mergeR l x) a = (byteL l a).or (pcAt x a)
  | [], x, _, hx, _ => by
    refine ⟨⟨by simp [mergeR], fun p hp => by simp [mergeR] at hp; subst hp; exact hx⟩, fun a => ?_⟩
    simp [mergeR, byteL]
  | p :: l, x, hl, hx, hh => by
    obtain ⟨gl, bl, np⟩ := good_cons hl
    have lp := len_pos np
    rw [mergeR]
    split
    · rename_i hle
      have h1 := hh p (by simp)
      have hlen := over_len hle h1
      have hne : (overP p x).2 ≠ [] := fun e => by rw [e] at hlen; simp at hlen; omega
      obtain ⟨g, b⟩ := merge_good l (overP p x) gl hne (fun q hq => by have := bl q hq; unfold gap at this; simp only [overP]; omega)
      refine ⟨g, fun a => ?_⟩
      rw [b a, over_at hle h1, byteL]
      cases hpa : pcAt p a with
      | none => simp
      | some c =>
        have hs := pcAt_some hpa
        rw [byteL_low (B := p.1 + (p.2.length : Int)) bl (by omega)]
        simp
    · rename_i hle
      refine ⟨good_mk hl (fun q hq => ?_) hx, fun a => ?_⟩
      · unfold gap
        rcases List.mem_cons.mp hq with rfl | hq
        · omega
        · have := bl q hq
          unfold gap at this
          omega
      · rw [byteL]
        cases hxa : pcAt x a with
        | none => simp
        | some c =>
          have hs := pcAt_some hxa
          rw [byteL_low (l := p :: l) (B := x.1 + (x.2.length : Int)) (fun q hq => by
            rcases List.mem_cons.mp hq with rfl | hq
            · omega
            · have := bl q hq
              unfold gap at this
              omega) (by omega)]
          simp
theorem with_good : ∀ (l : List Pk) (x : Pk), Good l → x.2 ≠ [] → Good (withL l x) ∧ ∀ a, byteL (withL l x) a = (byteL l a).or (pcAt x a)
  | [], x, _, hx => by
    refine ⟨⟨by simp [withL], fun p hp => by simp [withL] at hp; subst hp; exact hx⟩, fun a => ?_⟩
    simp [withL, byteL]
  | p :: l, x, hl, hx => by
    obtain ⟨gl, bl, np⟩ := good_cons hl
    rw [withL]
    split
    · rename_i hlt
      obtain ⟨g, b⟩ := with_good l x gl hx
      refine ⟨good_mk g (with_low l x hlt bl) np, fun a => ?_⟩
      rw [byteL, byteL, b a, Option.or_assoc]
    · rename_i hlt
      refine merge_good (p :: l) x hl hx fun q hq => ?_
      rcases List.mem_cons.mp hq with rfl | hq
      · omega
      · have := bl q hq
        unfold gap at this
        omega
theorem with_len : ∀ (l : List Pk) (x : Pk), (withL l x).length ≤ l.length + 1
  | [], x => by simp [withL]
  | p :: l, x => by
    rw [withL]
    have hm : ∀ (l : List Pk) (x : Pk), (mergeR l x).length ≤ l.length + 1 := by
      intro l
      induction l with
      | nil => intro x; simp [mergeR]
      | cons p l ih =>
        intro x
        rw [mergeR]
        split
        · have := ih (overP p x); simp; omega
        · simp
    split
    · have := with_len l x; simp; omega
    · exact hm _ _

theorem good_of : ∀ {l : List Pk}, (∀ x ∈ l, 1 ≤ x.2.length) → Apart l → Good l
  | [], _, _ => ⟨by simp, by simp⟩
  | p :: l, h1, ha => by
    have g : Good l := good_of (fun x hx => h1 x (by simp [hx])) fun i hi => by
      have := ha (i + 1) (by simp; omega)
      simpa using this
    refine good_mk g (fun q hq => ?_) (fun e => by have := h1 p (by simp); rw [e] at this; simp at this)
    cases l with
    | nil => cases hq
    | cons q0 l =>
      have h0 := ha 0 (by simp)
      simp only [List.getElem_cons_zero, List.getElem_cons_succ] at h0
      obtain ⟨_, b, _⟩ := good_cons g
      unfold gap
      rcases List.mem_cons.mp hq with rfl | hq
      · exact h0
      · have := b q hq
        unfold gap at this
        omega
theorem PcsP.good {l : List Pk} (h : PcsP l) : Good l := good_of (fun x hx => (h.2.1 x hx).2.2.1) h.2.2
def endL (l : List Pk) : Int := match l.getLast? with | none => 0 | some p => p.1 + (p.2.length : Int)
theorem end_le : ∀ {l : List Pk}, Good l → ∀ p ∈ l, p.1 + (p.2.length : Int) ≤ endL l
  | [], _, p, hp => by cases hp
  | [p0], _, p, hp => by simp at hp; subst hp; simp [endL]
  | p0 :: q :: l, hg, p, hp => by
    obtain ⟨g, b, _⟩ := good_cons hg
    have e : endL (p0 :: q :: l) = endL (q :: l) := by simp [endL]
    rw [e]
    rcases List.mem_cons.mp hp with rfl | hp
    · have h1 := end_le g q (by simp)
      have h2 := b q (by simp)
      unfold gap at h2
      omega
    · exact end_le g p hp
def addF (l : List Pk) (x : Pk) (a : Int) : Option UInt8 := (byteL l a).or (pcAt x a)
theorem scan_with {l : List Pk} {x : Pk} {E : Int} (hg : Good l) (h0 : ∀ p ∈ l, 0 ≤ p.1) (hx : x.2 ≠ []) (hx0 : 0 ≤ x.1) (hE : E = max (endL l) (x.1 + (x.2.length : Int))) :
    scan (addF l x) (E + 1).toNat 0 [] [] = withL l x := by
  have hx1 := len_pos hx
  obtain ⟨g1, b1⟩ := with_good l x hg hx
  obtain ⟨g2, b2⟩ := scan_good (addF l x) E (fun a ha => by
    rw [addF, pcAt_out (.inr (by omega)), byteL_none fun p hp => pcAt_out (.inr (by have := end_le hg p hp; omega))]
    rfl) (E + 1).toNat 0 [] [] (by omega) (by rw [pend, if_pos rfl]; exact ⟨by simp, by simp⟩) (fun c => by
      rw [pend, if_pos rfl, byteL]
      split
      · rw [addF, pcAt_out (.inl (by omega)), byteL_none fun p hp => pcAt_out (.inl (by have := h0 p hp; omega))]; rfl
      · rfl) (by simp) (fun h => by omega)
  exact good_eq g2 g1 fun a => (b2 a).trans (b1 a).symm

end Go.Proofs.Ytedhemllgpbheaa.P7

namespace Go.Proofs.Ytedhemllgpbheaa.P7
open Go.RowKit

theorem in_q (n a b : Int) (v : Bool) (h : inB n a b = v) (w : World) (k : Nat) : Calls Try.prog 21 #[.int .i64 n, .int .i64 a, .int .i64 b] (w.drewN k) fun e w'' => e = .returned (.bool v) ∧ ∃ m, w'' = w.drewN m :=
  (in_any n a b _).mono (by rintro e w' ⟨rfl, rfl⟩; exact ⟨by rw [h], k, rfl⟩)

def PsRel (w : World) (l : List Pk) (i : Value) (wr : World) : Prop :=
  ∃ j : Nat, j ≤ l.length ∧ i = .int .i64 j ∧ w.grownBy wr none ∧ (∀ x ∈ l.take j, pc1 x) ∧ ApartTo l j

set_option maxRecDepth 100000 in
set_option maxHeartbeats 20000000 in
theorem ok_spec (a : Option Addr) (c : Nat) (l : List Pk) (w : World) (h : PkAt w a l) (hl : l.length ≤ 9223372036854775807) : Calls Try.prog 34 #[.slice a l.length c] w fun e w' => e = .returned (.bool (pcsOk l)) ∧ w.grownBy w' none := by
  have H := Lib.hid h
  clear h
  go_enter Try.func34, Try.ntmps34
  go_wp2_with fail
  go_loopw [3] (fun i wr => PsRel w l i wr) (fun i _ => l.length - (intOf i).toNat)
  case atStart => exact ⟨0, Nat.zero_le _, rfl, World.grownBy.refl _ _, by simp, fun i h h2 => absurd h2 (by omega)⟩
  case round =>
    obtain ⟨j, hj, hi, hg, hall, hap⟩ := hrel
    have HS := Lib.hid (And.intro hg (And.intro hall hap))
    clear hg hall hap
    by_cases hlt : j < l.length
    · rcases (H.out.kept HS.out.1) with h0 | ⟨b, off, rfl, hb, hc⟩
      · rw [h0] at hlt
        simp at hlt
      · obtain ⟨c0, c1⟩ := hc j hlt
        have HC := Lib.hid hc
        clear hc
        have HX := Lib.hid (fun hx => all_next (P := pc1) l j hlt HS.out.2.1 hx)
        have HY := Lib.hid (show ¬ pc1 l[j] → ¬ PcsP l from fun hn hp => hn (hp.2.1 _ (List.getElem_mem hlt)))
        have HZ := Lib.hid (show ∀ k, j = k + 1 → ∃ x : Pk, pc1 x ∧ wr.cell? ⟨b, off + k * 2, none⟩ = some (.int .i64 x.1) ∧ wr.cell? ⟨b, off + k * 2 + 1, none⟩ = some (.string ⟨x.2.toArray⟩) ∧ (x.1 + (x.2.length : Int) < l[j].1 → ApartTo l (j + 1)) ∧ (¬ x.1 + (x.2.length : Int) < l[j].1 → ¬ PcsP l) from fun k hk => by
          subst hk
          have hk2 : k < l.length := by omega
          obtain ⟨d0, d1⟩ := HC.out k hk2
          refine ⟨l[k], HS.out.2.1 _ (by rw [List.mem_take_iff_getElem]; exact ⟨k, by omega, rfl⟩), d0, d1, fun hh i h h2 => ?_, fun hh hp => hh (hp.2.2 k hlt)⟩
          by_cases e : i = k
          · subst e; exact hh
          · exact HS.out.2.2 i h (by omega))
        have HZ0 := Lib.hid (show j = 0 → ApartTo l (j + 1) from fun e i h h2 => by omega)
        by_cases hj0 : j = 0
        · have HZ1 := Lib.hid (HZ0.out hj0)
          subst hj0
          have hi2 : _ = Value.int .i64 0 := hi
          clear hi
          subst hi2
          simp only [Nat.zero_mul, Nat.add_zero] at c0 c1
          have hlt' : (0 : Int) < (l.length : Int) := by omega
          generalize l[0] = x at *
          obtain ⟨t, m⟩ := x
          dsimp only at c0 c1
          cases ht : inB t 0 6000
          · have HN := Lib.hid (show ¬ PcsP l from HY.out fun hh => in_not ht ⟨hh.1, hh.2.1⟩)
            go_wp2_with fail
            go_quiet ((go_at_call 21; exact in_q _ _ _ _ ht _ _))
            go_wp2_with fail
            go_ret
            exact ⟨ret_b (pcs_no HN.out).symm, grownBy_trans HS.out.1 (grownBy_drewN _)⟩
          · by_cases hm0 : m.length = 0
            · have hb0 : ((m.length : Int) == 0) = true := by rw [beq_iff_eq]; omega
              have HN := Lib.hid (show ¬ PcsP l from HY.out fun hh => by have := hh.2.2.1; have : 1 ≤ m.length := this; omega)
              go_wp2_with fail
              go_quiet ((go_at_call 21; exact in_q _ _ _ _ ht _ _))
              go_wp2_with fail
              go_ret
              exact ⟨ret_b (pcs_no HN.out).symm, grownBy_trans HS.out.1 (grownBy_drewN _)⟩
            · have hb0 : ((m.length : Int) == 0) = false := by rw [beq_eq_false_iff_ne]; omega
              by_cases hm1 : 6000 < m.length
              · have hb1 : 6000 < (m.length : Int) := by omega
                have HN := Lib.hid (show ¬ PcsP l from HY.out fun hh => by have := hh.2.2.2; have : m.length ≤ 6000 := this; omega)
                go_wp2_with fail
                go_quiet ((go_at_call 21; exact in_q _ _ _ _ ht _ _))
                go_wp2_with fail
                go_ret
                exact ⟨ret_b (pcs_no HN.out).symm, grownBy_trans HS.out.1 (grownBy_drewN _)⟩
              · have hb1 : ¬ 6000 < (m.length : Int) := by omega
                have hb2 : decide (6000 < (m.length : Int)) = false := decide_eq_false hb1
                have HA := Lib.hid (show ApartTo l (0 + 1) from HZ1.out)
                have HO := Lib.hid (HX.out ⟨(in_of ht).1, (in_of ht).2, by show 1 ≤ m.length; omega, by show m.length ≤ 6000; omega⟩)
                go_wp2_with fail
                go_quiet ((go_at_call 21; exact in_q _ _ _ _ ht _ _))
                go_wp2_with fail
                go_roundw
                case rel => exact ⟨1, hlt, by first | rfl | go_num, grownBy_trans HS.out.1 (grownBy_drewN _), HO.out, HA.out⟩
                case measure => simp [intOf]; omega
        · obtain ⟨k, rfl⟩ : ∃ k, j = k + 1 := ⟨j - 1, by omega⟩
          have hi2 : _ = Value.int .i64 ((k : Int) + 1) := hi
          clear hi
          subst hi2
          clear hj0
          have hk0 : (0 : Int) ≤ (k : Int) := by omega
          have hk1 : (0 : Int) < (k : Int) + 1 := by omega
          have hk2 : (0 : Int) ≤ (k : Int) + 1 := by omega
          have hk3 : (k : Int) < (l.length : Int) := by omega
          have hk4 : k < l.length := by omega
          have hk5 : IntKind.i64.wrap (k : Int) = k := IntWalk.i64_in _ (by omega)
          have hk6 : IntKind.i64.wrap ((k : Int) + 1 - 1) = k := by rw [IntWalk.i64_in _ (by omega)]; omega
          have hk8 : ((k : Int) + 1).toNat = k + 1 := by omega
          have hlt2 : (k : Int) + 1 < (l.length : Int) := by omega
          generalize l[k + 1] = x at *
          obtain ⟨t, m⟩ := x
          dsimp only at c0 c1
          cases ht : inB t 0 6000
          · have HN := Lib.hid (show ¬ PcsP l from HY.out fun hh => in_not ht ⟨hh.1, hh.2.1⟩)
            go_wp2_with fail
            go_quiet ((go_at_call 21; exact in_q _ _ _ _ ht _ _))
            go_wp2_with fail
            go_ret
            exact ⟨ret_b (pcs_no HN.out).symm, grownBy_trans HS.out.1 (grownBy_drewN _)⟩
          · by_cases hm0 : m.length = 0
            · have hb0 : ((m.length : Int) == 0) = true := by rw [beq_iff_eq]; omega
              have HN := Lib.hid (show ¬ PcsP l from HY.out fun hh => by have := hh.2.2.1; have : 1 ≤ m.length := this; omega)
              go_wp2_with fail
              go_quiet ((go_at_call 21; exact in_q _ _ _ _ ht _ _))
              go_wp2_with fail
              go_ret
              exact ⟨ret_b (pcs_no HN.out).symm, grownBy_trans HS.out.1 (grownBy_drewN _)⟩
            · have hb0 : ((m.length : Int) == 0) = false := by rw [beq_eq_false_iff_ne]; omega
              by_cases hm1 : 6000 < m.length
              · have hb1 : 6000 < (m.length : Int) := by omega
                have HN := Lib.hid (show ¬ PcsP l from HY.out fun hh => by have := hh.2.2.2; have : m.length ≤ 6000 := this; omega)
                go_wp2_with fail
                go_quiet ((go_at_call 21; exact in_q _ _ _ _ ht _ _))
                go_wp2_with fail
                go_ret
                exact ⟨ret_b (pcs_no HN.out).symm, grownBy_trans HS.out.1 (grownBy_drewN _)⟩
              · have hb1 : ¬ 6000 < (m.length : Int) := by omega
                have hb2 : decide (6000 < (m.length : Int)) = false := decide_eq_false hb1
                obtain ⟨x, ⟨p00, p01, p02, p03⟩, d0, d1, hy, hn⟩ := HZ.out k rfl
                have HYN := Lib.hid (And.intro hy hn)
                clear hy hn
                obtain ⟨t2, m2⟩ := x
                dsimp only at p00 p01 p02 p03 d0 d1 HYN
                have hk7 : IntKind.i64.wrap (t2 + (m2.length : Int)) = t2 + m2.length := IntWalk.i64_in _ (by omega)
                by_cases hgp : t2 + (m2.length : Int) < t
                · have hgp' : ¬ t ≤ t2 + (m2.length : Int) := by omega
                  have hgp2 : decide (t ≤ t2 + (m2.length : Int)) = false := decide_eq_false hgp'
                  have HA := Lib.hid (show ApartTo l (k + 1 + 1) from HYN.out.1 hgp)
                  have HO := Lib.hid (HX.out ⟨(in_of ht).1, (in_of ht).2, by show 1 ≤ m.length; omega, by show m.length ≤ 6000; omega⟩)
                  go_wp2_with fail
                  go_quiet ((go_at_call 21; exact in_q _ _ _ _ ht _ _))
                  go_wp2_with fail
                  go_roundw
                  case rel => exact ⟨k + 1 + 1, hlt, by go_num, grownBy_trans HS.out.1 (grownBy_drewN _), HO.out, HA.out⟩
                  case measure => simp [intOf]; omega
                · have hgp' : t ≤ t2 + (m2.length : Int) := by omega
                  have HN := Lib.hid (show ¬ PcsP l from HYN.out.2 hgp)
                  go_wp2_with fail
                  go_quiet ((go_at_call 21; exact in_q _ _ _ _ ht _ _))
                  go_wp2_with fail
                  go_ret
                  exact ⟨ret_b (pcs_no HN.out).symm, grownBy_trans HS.out.1 (grownBy_drewN _)⟩
    · obtain rfl : j = l.length := by omega
      subst hi
      have HP := Lib.hid (show l.length ≤ 60 → PcsP l from fun h => ⟨h, fun x hx => HS.out.2.1 x (by rw [List.take_length]; exact hx), fun i h => HS.out.2.2 i h h⟩)
      by_cases h60 : l.length ≤ 60
      · have h60' : (l.length : Int) ≤ 60 := by omega
        go_wp2_with fail
        go_ret
        exact ⟨ret_b (by rw [pcs_yes (HP.out h60)]), HS.out.1⟩
      · have h60' : ¬ (l.length : Int) ≤ 60 := by omega
        go_wp2_with fail
        go_ret
        exact ⟨ret_b (by rw [pcs_no fun hh => h60 hh.1]), HS.out.1⟩

end Go.Proofs.Ytedhemllgpbheaa.P7

namespace Go.Proofs.Ytedhemllgpbheaa.P7
open Go.RowKit

noncomputable def prefL (l : List Pk) : List UInt8 := if pcsOk l = true then (match l with | [] => [] | p :: _ => if p.1 ≤ 0 then p.2 else []) else []
theorem pk_first {w : World} {a : Option Addr} {p : Pk} {l : List Pk} (h : PkAt w a (p :: l)) : ∃ b off, a = some ⟨b, off, none⟩ ∧ w.cell? ⟨b, off, none⟩ = some (.int .i64 p.1) ∧ w.cell? ⟨b, off + 1, none⟩ = some (.string ⟨p.2.toArray⟩) := by
  rcases h with h | ⟨b, off, ha, hb, hc⟩
  · cases h
  · have := hc 0 (by simp)
    simp only [Nat.zero_mul, Nat.add_zero, List.getElem_cons_zero] at this
    exact ⟨b, off, ha, this⟩

set_option maxRecDepth 100000 in
set_option maxHeartbeats 2000000 in
theorem pref_spec (a : Option Addr) (c : Nat) (l : List Pk) (w : World) (h : PkAt w a l) (hl : l.length ≤ 9223372036854775807) : Calls Try.prog 37 #[.slice a l.length c] w (StrPost w (prefL l)) := by
  have H := Lib.hid h
  clear h
  cases hok : pcsOk l
  · have HE := Lib.hid (show prefL l = [] by simp [prefL, hok])
    go_enter Try.func37, Try.ntmps37
    go_wp2_with fail
    refine (ok_spec _ _ _ _ H.out hl).mono ?_
    rintro e w1 ⟨rfl, hg⟩
    rw [hok]
    have HG := Lib.hid hg
    clear hg
    go_wp2_with fail
    go_ret
    exact ⟨ret_ba (by rw [HE.out]), HG.out⟩
  · cases l with
    | nil =>
      have HE := Lib.hid (show prefL [] = [] by simp [prefL])
      go_enter Try.func37, Try.ntmps37
      go_wp2_with fail
      refine (ok_spec _ _ _ _ H.out hl).mono ?_
      rintro e w1 ⟨rfl, hg⟩
      rw [hok]
      have HG := Lib.hid hg
      clear hg
      go_wp2_with fail
      go_ret
      exact ⟨ret_ba (by rw [HE.out]), HG.out⟩
    | cons p l =>
      obtain ⟨t, m⟩ := p
      by_cases ht : t ≤ 0
      · have ht' : ¬ 0 < t := by omega
        have hn1 : (0 : Int) < ((l.length : Int) + 1) := by omega
        have hn2 : ((l.length : Int) + 1 == 0) = false := by rw [beq_eq_false_iff_ne]; omega
        have HE := Lib.hid (show prefL ((t, m) :: l) = m by simp [prefL, hok, ht])
        go_enter Try.func37, Try.ntmps37
        go_wp2_with fail
        refine (ok_spec _ _ _ _ H.out hl).mono ?_
        rintro e w1 ⟨rfl, hg⟩
        rw [hok]
        obtain ⟨b, off, rfl, c0, c1⟩ := pk_first (H.out.kept hg)
        dsimp only at c0 c1
        have HG := Lib.hid hg
        clear hg
        go_wp2_with fail
        go_ret
        exact ⟨ret_ba (by rw [HE.out]), HG.out⟩
      · have ht' : 0 < t := by omega
        have hn1 : (0 : Int) < ((l.length : Int) + 1) := by omega
        have hn2 : ((l.length : Int) + 1 == 0) = false := by rw [beq_eq_false_iff_ne]; omega
        have HE := Lib.hid (show prefL ((t, m) :: l) = [] by simp [prefL, hok, ht])
        go_enter Try.func37, Try.ntmps37
        go_wp2_with fail
        refine (ok_spec _ _ _ _ H.out hl).mono ?_
        rintro e w1 ⟨rfl, hg⟩
        rw [hok]
        obtain ⟨b, off, rfl, c0, c1⟩ := pk_first (H.out.kept hg)
        dsimp only at c0 c1
        have HG := Lib.hid hg
        clear hg
        go_wp2_with fail
        go_ret
        exact ⟨ret_ba (by rw [HE.out]), HG.out⟩

end Go.Proofs.Ytedhemllgpbheaa.P7

