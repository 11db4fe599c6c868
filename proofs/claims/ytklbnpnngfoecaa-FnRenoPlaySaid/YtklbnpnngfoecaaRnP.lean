/- Windows: what a step leaves. -/
import Derived.Test.YtklbnpnngfoecaaRnX
namespace Go.Proofs.Ytklbnpnngfoecaa
open Go.RowKit

theorem gro_bd {a n : Int} (ha : a ≤ 1000000000) (hn : 0 ≤ n) : a ≤ gro a n ∧ gro a n ≤ a + n ∧ gro a n ≤ 1000000000 := by
  unfold gro
  split <;> omega
theorem hlf_bd {f m : Int} (hm : 1 ≤ m ∧ m ≤ 10000) (hf : 0 ≤ f ∧ f ≤ 1000000000) : 2 * m ≤ hlf f m ∧ hlf f m ≤ 600000000 := by
  unfold hlf
  split <;> omega
theorem set_facts (m w l p d o g : Int) (hm : 1 ≤ m ∧ m ≤ 10000) (hw : m ≤ w ∧ w ≤ 1000000000) (hl : 2 * m ≤ l ∧ l ≤ 1000000000) (ho : 0 ≤ o ∧ o ≤ 1000000000) (hd : 0 ≤ d ∧ d ≤ 2) (hg : 0 ≤ g) :
    rnOk (rnSet ⟨m, w, l, p, d, o, g⟩) = true ∧ (rnSet ⟨m, w, l, p, d, o, g⟩).m = m ∧ (rnSet ⟨m, w, l, p, d, o, g⟩).w = w ∧ (rnSet ⟨m, w, l, p, d, o, g⟩).l = l ∧ (rnSet ⟨m, w, l, p, d, o, g⟩).d = d ∧ (rnSet ⟨m, w, l, p, d, o, g⟩).o = o ∧ (rnSet ⟨m, w, l, p, d, o, g⟩).p = if w < l then 1 else 2 := by
  by_cases q : w < l
  · rw [show rnSet ⟨m, w, l, p, d, o, g⟩ = ⟨m, w, l, 1, d, o, 0⟩ from if_pos q, if_pos q]
    refine ⟨?_, rfl, rfl, rfl, rfl, rfl, rfl⟩
    simp [rnOk]
    omega
  · rw [show rnSet ⟨m, w, l, p, d, o, g⟩ = ⟨m, w, l, 2, d, o, if g < w - 1 then g else w - 1⟩ from if_neg q, if_neg q]
    refine ⟨?_, rfl, rfl, rfl, rfl, rfl, rfl⟩
    simp [rnOk]
    split <;> omega

structure StepF (r : Rn) (e : Ev) (R : Rn) : Prop where
  ok : rnOk R = true
  m : R.m = r.m
  up : r.p = 3 ∨ e.k = 3 ∨ R.p = 3 ∨ r.w ≤ R.w
  ack : e.k = 1 → ¬ r.p = 3 → R.w ≤ r.w + r.m ∧ R.l = r.l ∧ R.d = 0
  dup3 : e.k = 2 → r.p = 3 → R.w = gro r.w r.m ∧ R.p = 3
  dup : e.k = 2 → ¬ r.p = 3 → R.p = 3 → R.l = hlf e.f r.m ∧ R.o = e.x ∧ r.d = 2
  late : e.k = 3 → R.w = r.m ∧ R.p = 1 ∧ R.l = hlf e.f r.m ∧ R.o = e.x ∧ R.d = 0 ∧ R.g = 0
  fin : r.p = 3 → e.k = 1 → r.o ≤ e.a → R.p = 2 ∧ R.w = r.l ∧ R.d = 0
  goes : r.p = 3 → ¬ e.k = 3 → ¬ (e.k = 1 ∧ r.o ≤ e.a) → R.p = 3 ∧ R.o = r.o ∧ R.l = r.l

theorem step_facts (m w l p d o g k n a f x : Int) (h1 : rnOk ⟨m, w, l, p, d, o, g⟩ = true) (h2 : evOk ⟨k, n, a, f, x⟩ = true) : StepF ⟨m, w, l, p, d, o, g⟩ ⟨k, n, a, f, x⟩ (rnStep ⟨m, w, l, p, d, o, g⟩ ⟨k, n, a, f, x⟩) := by
  obtain ⟨b1, b2, b3, b4, b5, b6, b7, b8, hp⟩ := rn_of h1
  obtain ⟨e1, e2, e3, e4, e5, e6, e7⟩ := ev_of h2
  dsimp only at b1 b2 b3 b4 b5 b6 b7 b8 hp e1 e2 e3 e4 e5 e6 e7
  have hH := hlf_bd ⟨b1, b2⟩ ⟨e2, e3⟩
  rcases e1 with ⟨rfl, y1, y2⟩ | ⟨rfl | rfl, rfl⟩
  · rcases hp with ⟨rfl, q1, q2, q3, rfl⟩ | ⟨rfl, q1, q2, q3, q4, q5⟩ | ⟨rfl, rfl, rfl⟩
    · rw [show rnStep ⟨m, w, l, 1, d, o, 0⟩ ⟨1, n, a, f, x⟩ = rnSet ⟨m, gro w (mn n m), l, 1, 0, o, 0⟩ from rfl]
      have ht : 1 ≤ mn n m ∧ mn n m ≤ m := by unfold mn; split <;> omega
      have hG := gro_bd (a := w) (n := mn n m) b4 (by omega)
      obtain ⟨s1, s2, s3, s4, s5, s6, s7⟩ := set_facts m (gro w (mn n m)) l 1 0 o 0 ⟨b1, b2⟩ (by omega) (by omega) (by omega) (by omega) (by omega)
      generalize rnSet ⟨m, gro w (mn n m), l, 1, 0, o, 0⟩ = R at *
      refine ⟨s1, s2, ?_, ?_, ?_, ?_, ?_, ?_, ?_⟩ <;> dsimp only <;> omega
    · by_cases q : w ≤ g + n
      · rw [show rnStep ⟨m, w, l, 2, d, o, g⟩ ⟨1, n, a, f, x⟩ = rnSet ⟨m, gro w m, l, 2, 0, o, g + n - w⟩ from (if_pos rfl).trans ((if_neg (by dsimp only; decide)).trans ((if_pos rfl).trans (if_pos q)))]
        have hG := gro_bd (a := w) (n := m) b4 (by omega)
        obtain ⟨s1, s2, s3, s4, s5, s6, s7⟩ := set_facts m (gro w m) l 2 0 o (g + n - w) ⟨b1, b2⟩ (by omega) (by omega) (by omega) (by omega) (by omega)
        generalize rnSet ⟨m, gro w m, l, 2, 0, o, g + n - w⟩ = R at *
        refine ⟨s1, s2, ?_, ?_, ?_, ?_, ?_, ?_, ?_⟩ <;> dsimp only <;> omega
      · rw [show rnStep ⟨m, w, l, 2, d, o, g⟩ ⟨1, n, a, f, x⟩ = rnSet ⟨m, w, l, 2, 0, o, g + n⟩ from (if_pos rfl).trans ((if_neg (by dsimp only; decide)).trans ((if_pos rfl).trans (if_neg q)))]
        obtain ⟨s1, s2, s3, s4, s5, s6, s7⟩ := set_facts m w l 2 0 o (g + n) ⟨b1, b2⟩ (by omega) (by omega) (by omega) (by omega) (by omega)
        generalize rnSet ⟨m, w, l, 2, 0, o, g + n⟩ = R at *
        refine ⟨s1, s2, ?_, ?_, ?_, ?_, ?_, ?_, ?_⟩ <;> dsimp only <;> omega
    · by_cases q : a < o
      · rw [show rnStep ⟨m, w, l, 3, 3, o, 0⟩ ⟨1, n, a, f, x⟩ = ⟨m, gro (if w < n then 0 else w - n) m, l, 3, 3, o, 0⟩ from (if_pos rfl).trans ((if_neg (by dsimp only; decide)).trans ((if_neg (by dsimp only; decide)).trans (if_pos q)))]
        have ht : 0 ≤ (if w < n then 0 else w - n) ∧ (if w < n then 0 else w - n) ≤ 1000000000 := by split <;> omega
        generalize (if w < n then 0 else w - n) = t at *
        have hG := gro_bd (a := t) (n := m) ht.2 (by omega)
        have hG2 : m ≤ gro t m := by unfold gro; split <;> omega
        generalize gro t m = G at *
        refine ⟨?_, rfl, ?_, ?_, ?_, ?_, ?_, ?_, ?_⟩
        · simp [rnOk]; omega
        all_goals dsimp only; omega
      · rw [show rnStep ⟨m, w, l, 3, 3, o, 0⟩ ⟨1, n, a, f, x⟩ = rnSet ⟨m, l, l, 3, 0, o, 0⟩ from (if_pos rfl).trans ((if_neg (by dsimp only; decide)).trans ((if_neg (by dsimp only; decide)).trans (if_neg q)))]
        obtain ⟨s1, s2, s3, s4, s5, s6, s7⟩ := set_facts m l l 3 0 o 0 ⟨b1, b2⟩ (by omega) (by omega) (by omega) (by omega) (by omega)
        generalize rnSet ⟨m, l, l, 3, 0, o, 0⟩ = R at *
        rw [if_neg (by omega)] at s7
        refine ⟨s1, s2, ?_, ?_, ?_, ?_, ?_, ?_, ?_⟩ <;> dsimp only <;> omega
  · by_cases h3 : p = 3
    · subst h3
      rw [show rnStep ⟨m, w, l, 3, d, o, g⟩ ⟨2, 0, a, f, x⟩ = ⟨m, gro w m, l, 3, d, o, g⟩ from (if_neg (by dsimp only; decide)).trans ((if_neg (by dsimp only; decide)).trans (if_pos rfl))]
      have hG := gro_bd (a := w) (n := m) b4 (by omega)
      refine ⟨?_, rfl, .inl rfl, ?_, fun _ _ => ⟨rfl, rfl⟩, ?_, ?_, ?_, fun _ _ _ => ⟨rfl, rfl, rfl⟩⟩
      · simp [rnOk]; omega
      all_goals dsimp only; omega
    · have hd : 0 ≤ d ∧ d ≤ 2 := by omega
      by_cases q : d < 2
      · rw [show rnStep ⟨m, w, l, p, d, o, g⟩ ⟨2, 0, a, f, x⟩ = ⟨m, w, l, p, d + 1, o, g⟩ from (if_neg (by dsimp only; decide)).trans ((if_neg (by dsimp only; decide)).trans ((if_neg h3).trans (if_pos q)))]
        refine ⟨?_, rfl, ?_, ?_, ?_, ?_, ?_, ?_, ?_⟩
        · simp [rnOk]; omega
        all_goals dsimp only; omega
      · rw [show rnStep ⟨m, w, l, p, d, o, g⟩ ⟨2, 0, a, f, x⟩ = ⟨m, hlf f m + 3 * m, hlf f m, 3, 3, x, 0⟩ from (if_neg (by dsimp only; decide)).trans ((if_neg (by dsimp only; decide)).trans ((if_neg h3).trans (if_neg q)))]
        refine ⟨?_, rfl, ?_, ?_, ?_, ?_, ?_, ?_, ?_⟩
        · simp [rnOk]; omega
        all_goals dsimp only; omega
  · rw [show rnStep ⟨m, w, l, p, d, o, g⟩ ⟨3, 0, a, f, x⟩ = ⟨m, m, hlf f m, 1, 0, x, 0⟩ from (if_neg (by dsimp only; decide)).trans ((if_pos rfl).trans (if_pos (by dsimp only; omega)))]
    refine ⟨?_, rfl, ?_, ?_, ?_, ?_, ?_, ?_, ?_⟩
    · simp [rnOk]; omega
    all_goals dsimp only; omega

/-- A step's answer, whole: what both sides give back. -/
theorem st_ex (m w l p d o g k n a f x : Int) : ∃ (R0 R1 R2 R3 R4 R5 R6 : Int) (b : Bool), stV ⟨m, w, l, p, d, o, g⟩ ⟨k, n, a, f, x⟩ = .tuple #[.agg #[.int .i64 R0, .int .i64 R1, .int .i64 R2, .int .i64 R3, .int .i64 R4, .int .i64 R5, .int .i64 R6], .bool b] ∧ (b = true → rnOk ⟨m, w, l, p, d, o, g⟩ = true ∧ evOk ⟨k, n, a, f, x⟩ = true ∧ rnStep ⟨m, w, l, p, d, o, g⟩ ⟨k, n, a, f, x⟩ = ⟨R0, R1, R2, R3, R4, R5, R6⟩) ∧ (b = false → stB ⟨m, w, l, p, d, o, g⟩ ⟨k, n, a, f, x⟩ = false) := by
  cases h : stB ⟨m, w, l, p, d, o, g⟩ ⟨k, n, a, f, x⟩
  · exact ⟨0, 0, 0, 0, 0, 0, 0, false, by unfold stV stR; rw [h]; rfl, by simp, fun _ => rfl⟩
  · obtain ⟨h1, h2⟩ : rnOk ⟨m, w, l, p, d, o, g⟩ = true ∧ evOk ⟨k, n, a, f, x⟩ = true := by simpa [stB] using h
    obtain ⟨⟨R0, R1, R2, R3, R4, R5, R6⟩, hR⟩ : ∃ R, R = rnStep ⟨m, w, l, p, d, o, g⟩ ⟨k, n, a, f, x⟩ := ⟨_, rfl⟩
    exact ⟨R0, R1, R2, R3, R4, R5, R6, true, by unfold stV stR; rw [h, if_pos rfl, ← hR]; rfl, fun _ => ⟨h1, h2, hR.symm⟩, by simp⟩

end Go.Proofs.Ytklbnpnngfoecaa
