/- A frame comes back from its bytes; what is read, written again, has just its bytes. -/
import Derived.Test.YtpihfhpdamjefaaFrmJ
namespace Go.Proofs.Ytpihfhpdamjefaa
open Go.RowKit

theorem parts_lists (t f x r : List UInt8) (h1 : t.length = 6) (h2 : f.length = 6) (h3 : x.length = 2) :
    (t ++ (f ++ (x ++ r))).take 6 = t ∧ ((t ++ (f ++ (x ++ r))).drop 6).take 6 = f ∧ ((t ++ (f ++ (x ++ r))).drop 12).take 2 = x ∧ (t ++ (f ++ (x ++ r))).drop 14 = r := by
  have a1 : (t ++ (f ++ (x ++ r))).drop 6 = f ++ (x ++ r) := List.drop_left' h1
  have a2 : (t ++ (f ++ (x ++ r))).drop 12 = x ++ r := by
    rw [show t ++ (f ++ (x ++ r)) = (t ++ f) ++ (x ++ r) by simp]
    exact List.drop_left' (by simp; omega)
  have a3 : (t ++ (f ++ (x ++ r))).drop 14 = r := by
    rw [show t ++ (f ++ (x ++ r)) = (t ++ f ++ x) ++ r by simp]
    exact List.drop_left' (by simp; omega)
  rw [a1, a2, a3]
  exact ⟨List.take_left' h1, List.take_left' h2, List.take_left' h3, rfl⟩

theorem frm_back (t f : List UInt8) (v k : Int) (b : List UInt8) (h : frameOk t f v k b) : readOk (frameL t f v k b) ∧ frmAt (frameL t f v k b) = ⟨t, f, v, k, b⟩ := by
  have hL : frameL t f v k b = frameT t f v k b := if_pos h
  have hh := h
  obtain ⟨h1, h2, h3, h4, h5, h6, h7, h8⟩ := h
  have lk := two_len k (by omega) (by omega)
  have gk : getBe (putL k 2) = k := get_put k 2 ⟨by omega, by omega, by omega, by simp; omega⟩
  by_cases hv : v = -1
  · subst hv
    have e : frameL t f (-1) k b = t ++ (f ++ (putL k 2 ++ b)) := by rw [hL, frameT_plain]; simp only [List.append_assoc]
    rw [e]
    obtain ⟨p1, p2, p3, p4⟩ := parts_lists t f (putL k 2) b h1 h2 lk
    have hlen : 14 ≤ (t ++ (f ++ (putL k 2 ++ b))).length := by simp only [List.length_append]; omega
    generalize t ++ (f ++ (putL k 2 ++ b)) = l at *
    have ht : tagL l = false := by
      unfold tagL
      rw [p3, gk]
      simp [h7]
    have ha : frmAt l = ⟨t, f, -1, k, b⟩ := by
      unfold frmAt
      rw [ht, p1, p2, p3, p4, gk]
      simp
    refine ⟨⟨?_, ?_⟩, ha⟩
    · rw [ht]; simpa using hlen
    · rw [ha]; exact hh
  · have l8 := two_len 33024 (by omega) (by omega)
    have lv := two_len v (by omega) (by omega)
    have gv : getBe (putL v 2) = v := get_put v 2 ⟨by omega, by omega, by omega, by simp; omega⟩
    have g8 : getBe (putL 33024 2) = 33024 := get_put 33024 2 ⟨by omega, by omega, by omega, by simp⟩
    have e : frameL t f v k b = t ++ (f ++ (putL 33024 2 ++ (putL v 2 ++ (putL k 2 ++ b)))) := by rw [hL, frameT_tag _ _ _ _ _ hv]; simp only [List.append_assoc]
    rw [e]
    obtain ⟨p1, p2, p3, p4⟩ := parts_lists t f (putL 33024 2) (putL v 2 ++ (putL k 2 ++ b)) h1 h2 l8
    have hlen : 18 ≤ (t ++ (f ++ (putL 33024 2 ++ (putL v 2 ++ (putL k 2 ++ b))))).length := by simp only [List.length_append]; omega
    generalize t ++ (f ++ (putL 33024 2 ++ (putL v 2 ++ (putL k 2 ++ b)))) = l at *
    have q1 : (l.drop 14).take 2 = putL v 2 := by rw [p4]; exact List.take_left' lv
    have q2 : l.drop 16 = putL k 2 ++ b := by
      have : l.drop 16 = (l.drop 14).drop 2 := by rw [List.drop_drop]
      rw [this, p4]
      exact List.drop_left' lv
    have q3 : l.drop 18 = b := by
      have : l.drop 18 = (l.drop 16).drop 2 := by rw [List.drop_drop]
      rw [this, q2]
      exact List.drop_left' lk
    have q4 : (l.drop 16).take 2 = putL k 2 := by rw [q2]; exact List.take_left' lk
    have ht : tagL l = true := by
      unfold tagL
      rw [p3, g8]
      simp
      omega
    have ha : frmAt l = ⟨t, f, v, k, b⟩ := by
      unfold frmAt
      rw [ht, p1, p2, q1, q3, q4, gk, gv]
      simp
    refine ⟨⟨?_, ?_⟩, ha⟩
    · rw [ht]; simpa using hlen
    · rw [ha]; exact hh

theorem frm_again (l : List UInt8) (h : readOk l) : (frmAt l).bytes = l := by
  unfold Frm.bytes
  cases ht : tagL l
  · have h14 : 14 ≤ l.length := by have := h.1; rw [ht] at this; simpa using this
    have := (plain_iff l h14 ht).2 h
    unfold frmAt
    rw [ht]
    simpa using this
  · have h18 : 18 ≤ l.length := by have := h.1; rw [ht] at this; simpa using this
    have h1 := (tag_iff l h18 ht).2 h
    have h4 : getBe ((l.drop 14).take 2) < 4096 := by
      have h6 := h.2
      unfold frmAt Frm.ok at h6
      rw [ht] at h6
      have := h6.2.2.2.1
      simp only [if_true] at this
      omega
    have h0 := (getBe2 ((l.drop 14).take 2) (mid_len l 14 2 (by omega))).1
    rw [Int.emod_eq_of_lt h0 h4] at h1
    unfold frmAt
    rw [ht]
    simpa using h1
theorem not_read_nil : ¬ readOk [] := not_long [] (by simp)

/-- What is read of a frame's bytes. -/
theorem read_first (t f : List UInt8) (v k : Int) (b : List UInt8) : ∃ T F V K B, (∀ w, Calls Try.prog 11 #[.string ⟨(frameL t f v k b).toArray⟩] w fun e w' => e = .returned (.tuple #[frameV T F V K B, .bool (decide (frameOk t f v k b))]) ∧ w.grownBy w' none) ∧ (frameOk t f v k b → T = t ∧ F = f ∧ V = v ∧ K = k ∧ B = b) := by
  have hl : (frameL t f v k b).length ≤ 1000000000000 := by
    unfold frameL
    split
    · rename_i h
      have h1 := frameH_len t f v k h.1 h.2.1
      have h2 := h.2.2.2.2.2.2.2
      unfold frameT
      rw [List.length_append]
      omega
    · simp
  by_cases hok : frameOk t f v k b
  · obtain ⟨h1, h2⟩ := frm_back t f v k b hok
    refine ⟨t, f, v, k, b, fun w => (frame_read _ hl w).mono fun e w' he => ⟨?_, he.2⟩, fun _ => ⟨rfl, rfl, rfl, rfl, rfl⟩⟩
    rw [he.1, decide_eq_true h1, decide_eq_true hok, frmOut, if_pos h1, h2]
  · have e : frameL t f v k b = [] := if_neg hok
    refine ⟨[], [], 0, 0, [], fun w => (frame_read _ hl w).mono fun e' w' he => ⟨?_, he.2⟩, fun h => absurd h hok⟩
    rw [he.1, decide_eq_false hok, e, decide_eq_false not_read_nil, frmOut, if_neg not_read_nil]
    rfl
theorem read_second (l : List UInt8) (hl : l.length ≤ 1000000000000) : ∃ t f v k b d, (∀ w, Calls Try.prog 16 #[.string ⟨l.toArray⟩] w fun e w' => e = .returned (.tuple #[frameV t f v k b, .bool d]) ∧ w.grownBy w' none) ∧ (∀ w, Calls Try.prog 11 #[.string ⟨l.toArray⟩] w fun e w' => e = .returned (.tuple #[frameV t f v k b, .bool d]) ∧ w.grownBy w' none) ∧ (d = true → frameL t f v k b = l) := by
  refine ⟨_, _, _, _, _, _, frame_model l hl, frame_read l hl, fun hd => ?_⟩
  have h : readOk l := of_decide_eq_true hd
  have := frm_again l h
  rw [frmOut, if_pos h]
  exact this

end Go.Proofs.Ytpihfhpdamjefaa
