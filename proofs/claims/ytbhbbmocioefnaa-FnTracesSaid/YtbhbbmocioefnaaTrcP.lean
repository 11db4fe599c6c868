/- What is written of packets is read again, whatever block of another kind stands behind. -/
import Derived.Test.YtbhbbmocioefnaaMark
namespace Go.Proofs.Ytbhbbmocioefnaa
open Go.RowKit

theorem trc_block (s : List UInt8) (big : Bool) (f p : Nat) (out : List Pk) (k : Int) (l r : List UInt8) (hs : s.drop p = blockT k l big ++ r) (hb : blockOk k l) (hk : k = 168627466 ↔ p = 0) (h6 : k ≠ 6) :
    trc s big (f + 1) p out = trc s big f (p + (l.length + 12)) out ∧ s.drop (p + (l.length + 12)) = r := by
  obtain ⟨r1, r2, r3, r4, r5⟩ := block_right k l r big hb
  rw [← hs] at r1 r2 r3 r4
  have hlt : p < s.length := by
    have := r1.here
    simp at this
    omega
  refine ⟨trc_other s big f p l.length out hlt r1 ?_ ?_, ?_⟩
  · rw [r2]; exact hk
  · rw [r2]; exact h6
  · rw [← List.drop_drop]; exact r4

theorem body_back (t : Int) (m : List UInt8) (big : Bool) (h : pkOk (t, m)) : PkR (bodyB t m big) big m.length ∧ timeOf (bodyB t m big) 4 big = t ∧ ((bodyB t m big).drop 20).take m.length = m := by
  obtain ⟨h0, h1, h2⟩ := h
  simp only at h0 h1 h2
  have n0 := numL_four 0 big (put_four (by omega) (by omega))
  have n1 := numL_four (t / 4294967296) big (put_four (by omega) (by omega))
  have n2 := numL_four (t % 4294967296) big (put_four (by omega) (by omega))
  have n3 := numL_four (m.length : Int) big (put_four (by omega) (by omega))
  have hB : bodyB t m big = numL 0 4 big ++ (numL (t / 4294967296) 4 big ++ (numL (t % 4294967296) 4 big ++ (numL (m.length : Int) 4 big ++ (numL (m.length : Int) 4 big ++ padL m)))) := by
    simp [bodyB, List.append_assoc]
  rw [hB]
  generalize numL 0 4 big = A0 at *
  generalize hA1 : numL (t / 4294967296) 4 big = A1 at *
  generalize hA2 : numL (t % 4294967296) 4 big = A2 at *
  generalize hA3 : numL (m.length : Int) 4 big = A3 at *
  have at4 : ∀ (a : List UInt8) (b : List UInt8), a.length = 4 → (a ++ b).drop 4 = b := fun a b h => by rw [List.drop_left' h]
  have tk4 : ∀ (a : List UInt8) (b : List UInt8), a.length = 4 → (a ++ b).take 4 = a := fun a b h => by rw [List.take_left' h]
  have d4 : (A0 ++ (A1 ++ (A2 ++ (A3 ++ (A3 ++ padL m))))).drop 4 = A1 ++ (A2 ++ (A3 ++ (A3 ++ padL m))) := at4 _ _ n0.1
  have d8 : (A0 ++ (A1 ++ (A2 ++ (A3 ++ (A3 ++ padL m))))).drop 8 = A2 ++ (A3 ++ (A3 ++ padL m)) := by
    rw [show (8 : Nat) = 4 + 4 from rfl, ← List.drop_drop, d4]; exact at4 _ _ n1.1
  have d12 : (A0 ++ (A1 ++ (A2 ++ (A3 ++ (A3 ++ padL m))))).drop 12 = A3 ++ (A3 ++ padL m) := by
    rw [show (12 : Nat) = 8 + 4 from rfl, ← List.drop_drop, d8]; exact at4 _ _ n2.1
  have d16 : (A0 ++ (A1 ++ (A2 ++ (A3 ++ (A3 ++ padL m))))).drop 16 = A3 ++ padL m := by
    rw [show (16 : Nat) = 12 + 4 from rfl, ← List.drop_drop, d12]; exact at4 _ _ n3.1
  have d20 : (A0 ++ (A1 ++ (A2 ++ (A3 ++ (A3 ++ padL m))))).drop 20 = padL m := by
    rw [show (20 : Nat) = 16 + 4 from rfl, ← List.drop_drop, d16]; exact at4 _ _ n3.1
  have e4 : hiOf (A0 ++ (A1 ++ (A2 ++ (A3 ++ (A3 ++ padL m))))) 4 big = t / 4294967296 := by rw [hiOf, d4, tk4 _ _ n1.1]; exact n1.2
  have e8 : hiOf (A0 ++ (A1 ++ (A2 ++ (A3 ++ (A3 ++ padL m))))) 8 big = t % 4294967296 := by rw [hiOf, d8, tk4 _ _ n2.1]; exact n2.2
  have e12 : hiOf (A0 ++ (A1 ++ (A2 ++ (A3 ++ (A3 ++ padL m))))) 12 big = m.length := by rw [hiOf, d12, tk4 _ _ n3.1]; exact n3.2
  have e16 : hiOf (A0 ++ (A1 ++ (A2 ++ (A3 ++ (A3 ++ padL m))))) 16 big = m.length := by rw [hiOf, d16, tk4 _ _ n3.1]; exact n3.2
  have hlen : (A0 ++ (A1 ++ (A2 ++ (A3 ++ (A3 ++ padL m))))).length = 20 + (padL m).length := by
    simp only [List.length_append, n0.1, n1.1, n2.1, n3.1]; omega
  have hpl : m.length ≤ (padL m).length := by rw [padL, List.length_append]; omega
  have et : timeOf (A0 ++ (A1 ++ (A2 ++ (A3 ++ (A3 ++ padL m))))) 4 big = t := by
    rw [timeOf, e4, show (4 + 4 : Nat) = 8 from rfl, e8]; omega
  refine ⟨⟨⟨by omega, by omega, by rw [et]; exact h1⟩, e12, h2, by rw [e16]; exact Int.le_refl _, by omega⟩, et, ?_⟩
  rw [d20, padL]
  exact List.take_left' rfl

theorem trc_pk (s : List UInt8) (big : Bool) (f p : Nat) (out : List Pk) (x : Pk) (r : List UInt8) (hs : s.drop p = pkT big x ++ r) (hx : pkOk x) (hp : p ≠ 0) (h60 : out.length ≠ 60) :
    trc s big (f + 1) p out = trc s big f (p + ((bodyB x.1 x.2 big).length + 12)) (out ++ [x]) ∧ s.drop (p + ((bodyB x.1 x.2 big).length + 12)) = r := by
  obtain ⟨t, m⟩ := x
  have hb := body_ok t m big hx
  obtain ⟨r1, r2, r3, r4, r5⟩ := block_right 6 (bodyB t m big) r big hb
  obtain ⟨b1, b2, b3⟩ := body_back t m big hx
  rw [show blockT 6 (bodyB t m big) big = pkT big (t, m) from rfl, ← hs] at r1 r2 r3 r4
  have hlt : p < s.length := by
    have := r1.here
    simp at this
    omega
  refine ⟨?_, by rw [← List.drop_drop]; exact r4⟩
  have := trc_packet s big f p (bodyB t m big).length m.length out hlt r1 (by rw [r2]; exact ⟨fun e => by omega, fun e => absurd e hp⟩) r2 (by rw [r3]; exact b1) h60
  rw [r3, b2, b3] at this
  exact this

theorem trc_pks (s : List UInt8) (big : Bool) : ∀ (l : List Pk) (f p : Nat) (out : List Pk) (r : List UInt8), s.drop p = l.flatMap (pkT big) ++ r → (∀ x ∈ l, pkOk x) → p ≠ 0 → out.length + l.length ≤ 60 →
    ∃ p', trc s big (f + l.length) p out = trc s big f p' (out ++ l) ∧ s.drop p' = r ∧ p' ≠ 0
  | [], f, p, out, r, hs, _, hp, _ => ⟨p, by simp, by simpa using hs, hp⟩
  | x :: l, f, p, out, r, hs, hx, hp, h60 => by
    have hs' : s.drop p = pkT big x ++ (l.flatMap (pkT big) ++ r) := by rw [hs, List.flatMap_cons, List.append_assoc]
    simp only [List.length_cons] at h60
    obtain ⟨e1, e2⟩ := trc_pk s big (f + l.length) p out x _ hs' (hx x (by simp)) hp (by omega)
    obtain ⟨p', e3, e4, e5⟩ := trc_pks s big l f _ (out ++ [x]) r e2 (fun y hy => hx y (by simp [hy])) (by omega) (by simp; omega)
    refine ⟨p', ?_, e4, e5⟩
    rw [List.length_cons, show f + (l.length + 1) = (f + l.length) + 1 from by omega, e1, e3, List.append_assoc]
    rfl

theorem mark_of (big : Bool) (r : List UInt8) : markOf (headL big ++ r) = numL 439041101 4 big := by
  have e1 : headL big ++ r = numL 168627466 4 big ++ (numL ((headB big).length + 12) 4 big ++ (numL 439041101 4 big ++ ((numL 1 2 big ++ (numL 0 2 big ++ List.replicate 8 255)) ++ (numL ((headB big).length + 12) 4 big ++ (blockT 1 (linkB big) big ++ r))))) := by
    simp [headL, blockT, headB, List.append_assoc]
  have a1 : (numL 168627466 4 big).length = 4 := len_four _ big (by omega) (by omega)
  have a2 : (numL ((headB big).length + 12) 4 big).length = 4 := by rw [headB_len]; exact len_four _ big (by omega) (by omega)
  have a3 : (numL 439041101 4 big).length = 4 := len_four _ big (by omega) (by omega)
  rw [e1, markOf, show (8 : Nat) = 4 + 4 from rfl, ← List.drop_drop, List.drop_left' a1, List.drop_left' a2, List.take_left' a3]

theorem mark_num (big : Bool) : numOf (numL 439041101 4 big) big = 439041101 := (numL_four 439041101 big (put_four (by omega) (by omega))).2
theorem mark_turned : ¬ numOf (numL 439041101 4 false) true = 439041101 := by
  have e : numL 439041101 4 false = [0x4d, 0x3c, 0x2b, 0x1a] := by
    unfold numL
    rw [putL_ok (put_four (by omega) (by omega))]
    decide
  rw [e]
  decide

theorem readT_order (big : Bool) (r : List UInt8) (h : (headL big ++ r).length ≤ 40000) : readT (headL big ++ r) = trc (headL big ++ r) big ((headL big ++ r).length + 1) 0 [] := by
  have hl : 28 ≤ (headL big ++ r).length ∧ (headL big ++ r).length ≤ 40000 := ⟨by rw [List.length_append, headL_len]; omega, h⟩
  cases big
  · exact readT_little _ hl (by rw [mark_of]; exact mark_turned) (by rw [mark_of]; exact mark_num false)
  · exact readT_big _ hl (by rw [mark_of]; exact mark_num true)

/-- What was written is read, and what a block of another kind behind it says is nothing. -/
theorem read_back (l : List Pk) (big : Bool) (ex : List UInt8) (h : traceOk l) (hx : ex = [] ∨ ∃ k m, blockOk k m ∧ k ≠ 168627466 ∧ k ≠ 6 ∧ ex = blockT k m big) (hl : (traceT l big ++ ex).length ≤ 40000) : readT (traceT l big ++ ex) = (l, -1) := by
  have e0 : traceT l big ++ ex = headL big ++ (l.flatMap (pkT big) ++ ex) := by rw [traceT, List.append_assoc]
  rw [e0] at hl ⊢
  rw [readT_order big _ hl]
  have hlen : (headL big ++ (l.flatMap (pkT big) ++ ex)).length = 48 + ((l.flatMap (pkT big)).length + ex.length) := by
    rw [List.length_append, headL_len, List.length_append]
  have hmin : ∀ l : List Pk, (∀ x ∈ l, pkOk x) → 12 * l.length ≤ (l.flatMap (pkT big)).length := by
    intro l
    induction l with
    | nil => intro _; simp
    | cons x l ih =>
      intro hh
      have a := ih (fun y hy => hh y (by simp [hy]))
      have b : 12 ≤ (pkT big x).length := by
        rw [pkT, blockT_len _ _ _ (body_ok x.1 x.2 big (hh x (by simp)))]
        omega
      simp only [List.flatMap_cons, List.length_append, List.length_cons]
      omega
  have hm := hmin l h.2
  generalize hs : headL big ++ (l.flatMap (pkT big) ++ ex) = s at *
  have hs0 : s.drop 0 = blockT 168627466 (headB big) big ++ (blockT 1 (linkB big) big ++ (l.flatMap (pkT big) ++ ex)) := by
    rw [List.drop_zero, ← hs, headL, List.append_assoc]
  obtain ⟨f, hf⟩ : ∃ f, s.length + 1 = (f + 2 + l.length) + 1 + 1 := ⟨s.length - 3 - l.length, by omega⟩
  rw [hf]
  obtain ⟨a1, a2⟩ := trc_block s big (f + 2 + l.length + 1) 0 [] 168627466 (headB big) _ hs0 (head_ok big) (by simp) (by omega)
  rw [a1]
  obtain ⟨b1, b2⟩ := trc_block s big (f + 2 + l.length) _ [] 1 (linkB big) _ a2 (link_ok big) (by constructor <;> intro e <;> omega) (by omega)
  rw [b1]
  obtain ⟨p', c1, c2, c3⟩ := trc_pks s big l (f + 2) _ [] ex b2 h.2 (by omega) (by simpa using h.1)
  rw [c1, List.nil_append]
  rcases hx with rfl | ⟨k, m, hb, hk, h6, rfl⟩
  · exact trc_end s big (f + 1) p' l (by simpa using List.drop_eq_nil_iff.mp c2)
  · have c2' : s.drop p' = blockT k m big ++ [] := by rw [c2, List.append_nil]
    obtain ⟨d1, d2⟩ := trc_block s big (f + 1) p' l k m [] c2' hb (by constructor <;> intro e <;> omega) h6
    rw [d1]
    exact trc_end s big f _ l (List.drop_eq_nil_iff.mp d2)

/-- What is wrong is told by a place within, and nothing is read. -/
theorem trc_place (s : List UInt8) (big : Bool) : ∀ (f p : Nat) (out : List Pk), 0 < f → s.length < f + p → (trc s big f p out).2 = -1 ∨ ((trc s big f p out).1 = [] ∧ 0 ≤ (trc s big f p out).2 ∧ (trc s big f p out).2 ≤ s.length)
  | 0, _, _, h, _ => by omega
  | f + 1, p, out, _, h => by
    by_cases h1 : s.length ≤ p
    · rw [trc_end s big f p out h1]
      exact .inl rfl
    · rw [trc, if_neg h1]
      repeat' split
      all_goals first
        | exact .inr ⟨rfl, by show (0 : Int) ≤ (p : Int); omega, by show (p : Int) ≤ (s.length : Int); omega⟩
        | exact trc_place s big f _ _ (by omega) (by omega)
theorem readT_place (s : List UInt8) : (readT s).2 = -1 ∨ ((readT s).1 = [] ∧ 0 ≤ (readT s).2 ∧ (readT s).2 ≤ s.length) := by
  unfold readT
  repeat' split
  all_goals first
    | exact trc_place s _ _ _ _ (by omega) (by omega)
    | exact .inr ⟨rfl, by show (0 : Int) ≤ 0; omega, by show (0 : Int) ≤ (s.length : Int); omega⟩

end Go.Proofs.Ytbhbbmocioefnaa
