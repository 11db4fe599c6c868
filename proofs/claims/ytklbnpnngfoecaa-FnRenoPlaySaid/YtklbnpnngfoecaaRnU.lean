/- Windows: events in two pieces; the drawing of a beginning. -/
import Derived.Test.YtklbnpnngfoecaaRnH
import Derived.Test.YtklbnpnngfoecaaRnR
import Derived.Deep.DeepCutAuto
namespace Go.Proofs.Ytklbnpnngfoecaa
open Go.RowKit

theorem play_le : ∀ (t : List Ev) (r : Rn), (play r t).2 ≤ t.length
  | [], _ => Nat.le_refl _
  | e :: l, r => by
    unfold play
    split
    · have := play_le l (rnStep r e)
      simp
      exact this
    · exact Nat.zero_le _
theorem play_ok : ∀ (t : List Ev) (r : Rn), rnOk r = true → rnOk (play r t).1 = true
  | [], _, h => h
  | e :: l, r, h => by
    unfold play
    split
    · rename_i he
      exact play_ok l (rnStep r e) (step_facts r.m r.w r.l r.p r.d r.o r.g e.k e.n e.a e.f e.x h he).ok
    · exact h
/-- Events that are all right, in two pieces. -/
theorem play_cut : ∀ (t : List Ev) (r R : Rn) (k : Nat), play r t = (R, t.length) → k ≤ t.length → ∃ a, play r (t.take k) = (a, k) ∧ play a (t.drop k) = (R, t.length - k)
  | [], r, R, k, h, hk => by
    have h0 : k = 0 := by simpa using hk
    subst h0
    exact ⟨r, rfl, by simpa using h⟩
  | e :: l, r, R, 0, h, _ => ⟨r, rfl, by simpa using h⟩
  | e :: l, r, R, k + 1, h, hk => by
    unfold play at h
    split at h
    · rename_i he
      simp only [Prod.mk.injEq, List.length_cons] at h
      obtain ⟨a, h1, h2⟩ := play_cut l (rnStep r e) R k (Prod.ext h.1 (by simpa using h.2)) (by simpa using hk)
      refine ⟨a, ?_, ?_⟩
      · rw [List.take_succ_cons, play, if_pos he, h1]
      · rw [List.drop_succ_cons, h2, List.length_cons]
        congr 1
        omega
    · simp at h
theorem nw_ok (m y : Int) (h : nwB m y = true) : rnOk ⟨m, y * m, 1000000000, 1, 0, 0, 0⟩ = true := by
  unfold nwB at h
  rw [Bool.and_eq_true] at h
  have h1 := in_of h.1
  have h2 := in_of h.2
  have z1 : 1 * m ≤ y * m := Int.mul_le_mul_of_nonneg_right h2.1 (by omega)
  have z2 : y * m ≤ 10 * 10000 := Int.mul_le_mul h2.2 h1.2 (by omega) (by omega)
  unfold rnOk
  simp
  omega

theorem EvAt.take {w : World} {a : Option Addr} {t : List Ev} (h : EvAt w a t) (k : Nat) : EvAt w a (t.take k) := by
  rcases h with h | ⟨b, off, ha, hb, hc⟩
  · exact .inl (by rw [h]; simp)
  · refine .inr ⟨b, off, ha, hb, fun i hi => ?_⟩
    have hi2 : i < t.length := by rw [List.length_take] at hi; omega
    rw [List.getElem_take]
    exact hc i hi2
theorem EvAt.drop {w : World} {b off : Nat} {t : List Ev} (h : EvAt w (some ⟨b, off, none⟩) t) (k : Nat) : EvAt w (some ⟨b, off + k * 5, none⟩) (t.drop k) := by
  rcases h with h | ⟨b2, off2, ha, hb, hc⟩
  · exact .inl (by rw [h]; simp)
  · simp only [Option.some.injEq, Addr.mk.injEq, and_true] at ha
    obtain ⟨rfl, rfl⟩ := ha
    refine .inr ⟨b, off + k * 5, rfl, hb, fun i hi => ?_⟩
    have hi2 : k + i < t.length := by rw [List.length_drop] at hi; omega
    have h5 := hc (k + i) hi2
    rw [List.getElem_drop]
    rw [show off + k * 5 + i * 5 = off + (k + i) * 5 by omega]
    exact h5
theorem pl_yes {r : Rn} {t : List Ev} (h : rnOk r = true) (ht : t.length ≤ 200) : plV r t = .tuple #[rnV (play r t).1, .int .i64 ((play r t).2 : Nat)] := if_pos ⟨h, ht⟩
theorem pl_ex (r : Rn) (t : List Ev) (ht : t.length ≤ 200) : ∃ (R0 R1 R2 R3 R4 R5 R6 N : Int), plV r t = .tuple #[.agg #[.int .i64 R0, .int .i64 R1, .int .i64 R2, .int .i64 R3, .int .i64 R4, .int .i64 R5, .int .i64 R6], .int .i64 N] ∧ (¬ N < (t.length : Int) → rnOk r = true ∧ play r t = (⟨R0, R1, R2, R3, R4, R5, R6⟩, t.length) ∧ N = t.length) := by
  cases h : rnOk r
  · refine ⟨0, 0, 0, 0, 0, 0, 0, -1, if_neg (fun k => by rw [h] at k; exact absurd k.1 (by decide)), fun hn => absurd (by omega) hn⟩
  · obtain ⟨⟨⟨R0, R1, R2, R3, R4, R5, R6⟩, N⟩, hP⟩ : ∃ q, q = play r t := ⟨_, rfl⟩
    have hle := play_le t r
    rw [← hP] at hle
    refine ⟨R0, R1, R2, R3, R4, R5, R6, N, by rw [pl_yes h ht, ← hP]; rfl, fun hn => ?_⟩
    have hN : N = t.length := by dsimp only at hle; omega
    subst hN
    exact ⟨rfl, hP.symm, rfl⟩
theorem nw_ex (m y : Int) : ∃ (X0 X1 X2 X3 X4 X5 X6 : Int) (b : Bool), nwV m y = .tuple #[.agg #[.int .i64 X0, .int .i64 X1, .int .i64 X2, .int .i64 X3, .int .i64 X4, .int .i64 X5, .int .i64 X6], .bool b] ∧ (b = true → rnOk ⟨X0, X1, X2, X3, X4, X5, X6⟩ = true) := by
  cases h : nwB m y
  · refine ⟨0, 0, 0, 0, 0, 0, 0, false, ?_, by simp⟩
    unfold nwV
    rw [h, show (inB m 1 10000 && inB y 1 10) = false from h]
    rfl
  · refine ⟨m, y * m, 1000000000, 1, 0, 0, 0, true, ?_, fun _ => nw_ok m y h⟩
    unfold nwV
    rw [h, show (inB m 1 10000 && inB y 1 10) = true from h]
    rfl

set_option maxRecDepth 100000 in
set_option maxHeartbeats 1000000 in
theorem draw_new (a : Option Addr) (n c : Nat) (w : World) (h : CodeIn w a n) : Calls Try.prog 8 #[.slice a n c] w (Draw2Post w) := by
  have H := Lib.hid h
  clear h
  go_enter Try.func8, Try.ntmps8
  go_wp2_with fail
  refine (open_any _ _ _ _ H.out).mono ?_
  rintro e w1 ⟨rfl, hg, hr⟩
  have HG := Lib.hid (And.intro hg hr)
  clear hg hr
  go_wp2_with fail
  refine (off_w _ _ _ _ HG.out.2 (by omega) (wf_of (by omega) (by omega))).mono ?_
  rintro e w2 ⟨u, hu, rfl, hg, hr⟩
  have HG2 := Lib.hid (And.intro hu (And.intro (grownBy_new HG.out.1 hg (Nat.le_refl _)) hr))
  clear hg hr hu
  go_wp2_with fail
  refine (off_w _ _ _ _ HG2.out.2.2 (by omega) (wf_of (by omega) (by omega))).mono ?_
  rintro e w3 ⟨v, hv, rfl, hg, hr⟩
  have HG3 := Lib.hid (And.intro hv (grownBy_new HG2.out.2.1 hg (Nat.le_refl _)))
  clear hg hr hv
  go_wp2_with fail
  go_ret2
  exact ⟨u, v, HG2.out.1, HG3.out.1, rfl, HG3.out.2⟩

end Go.Proofs.Ytklbnpnngfoecaa
