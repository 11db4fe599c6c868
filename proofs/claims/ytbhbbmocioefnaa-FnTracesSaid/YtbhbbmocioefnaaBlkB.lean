/- What is read as a block has, written again, just the bytes that it was read from. -/
import Derived.Test.YtbhbbmocioefnaaBlkP
namespace Go.Proofs.Ytbhbbmocioefnaa
open Go.RowKit

theorem numOf_four (l : List UInt8) (big : Bool) (h : l.length = 4) : numL (numOf l big) 4 big = l ∧ 0 ≤ numOf l big ∧ numOf l big < 4294967296 := by
  have key : ∀ t : List UInt8, t.length = 4 → putL (getBe t) 4 = t ∧ 0 ≤ getBe t ∧ getBe t < 4294967296 := by
    intro t ht
    have h0 : 0 ≤ getBe t := by rw [getBe_bigE t (by omega)]; exact bigE_nonneg t
    have h1 : getBe t < 4294967296 := by
      rw [getBe_bigE t (by omega)]
      have := bigE_lt t
      rw [ht] at this
      simpa using this
    have h2 := put_get t h0
    rw [ht] at h2
    exact ⟨h2, h0, h1⟩
  unfold numL numOf
  cases big
  · obtain ⟨a, b, c⟩ := key l.reverse (by simpa using h)
    simp only [Bool.false_eq_true, if_false]
    exact ⟨by rw [a, List.reverse_reverse], b, c⟩
  · simpa using key l h

theorem block_back (t : List UInt8) (big : Bool) (q : Nat) (h : Right t big q) :
    blockOk (numOf (t.take 4) big) ((t.drop 8).take q) ∧ blockT (numOf (t.take 4) big) ((t.drop 8).take q) big = t.take (q + 12) := by
  have hh := h.here
  have l0 : (t.take 4).length = 4 := by simp; omega
  have l1 : ((t.drop 4).take 4).length = 4 := by simp; omega
  have l2 : ((t.drop (8 + q)).take 4).length = 4 := by simp; omega
  have l3 : ((t.drop 8).take q).length = q := by simp; omega
  obtain ⟨a0, a1, a2⟩ := numOf_four (t.take 4) big l0
  obtain ⟨b0, _, _⟩ := numOf_four ((t.drop 4).take 4) big l1
  obtain ⟨c0, _, _⟩ := numOf_four ((t.drop (8 + q)).take 4) big l2
  have hs : numOf ((t.drop 4).take 4) big = (q : Int) + 12 := h.size
  rw [hs] at b0
  rw [h.same] at c0
  refine ⟨⟨a1, a2, by rw [l3]; exact h.most, by rw [l3]; exact h.four⟩, ?_⟩
  unfold blockT
  rw [l3, a0]
  have e1 : t.take 8 = t.take 4 ++ (t.drop 4).take 4 := by rw [← List.take_add]
  have e2 : t.take (8 + q) = t.take 8 ++ (t.drop 8).take q := by rw [← List.take_add]
  have e3 : t.take (q + 12) = t.take (8 + q) ++ (t.drop (8 + q)).take 4 := by rw [← List.take_add]; congr 1; omega
  rw [e3, e2, e1, ← c0, ← b0]

end Go.Proofs.Ytbhbbmocioefnaa
