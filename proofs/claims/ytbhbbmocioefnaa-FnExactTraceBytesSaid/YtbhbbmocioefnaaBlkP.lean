/- What a block's bytes are, read again, whatever stands behind them. -/
import Derived.Test.YtbhbbmocioefnaaBack
import Derived.Test.YtbhbbmocioefnaaBlkR
namespace Go.Proofs.Ytbhbbmocioefnaa
open Go.RowKit

theorem numL_four (n : Int) (big : Bool) (h : putOk n 4) : (numL n 4 big).length = 4 ∧ numOf (numL n 4 big) big = n := by
  have hl : (putL n 4).length = 4 := by rw [putL_ok h, beL_length]; rfl
  unfold numL numOf
  cases big
  · simp only [Bool.false_eq_true, if_false, List.length_reverse, List.reverse_reverse]
    exact ⟨hl, get_put n 4 h⟩
  · simp only [if_true]
    exact ⟨hl, get_put n 4 h⟩

theorem blockT_parts (A B l r : List UInt8) (hA : A.length = 4) (hB : B.length = 4) :
    (A ++ B ++ l ++ B ++ r).take 4 = A ∧ ((A ++ B ++ l ++ B ++ r).drop 4).take 4 = B ∧ ((A ++ B ++ l ++ B ++ r).drop 8).take l.length = l ∧ ((A ++ B ++ l ++ B ++ r).drop (8 + l.length)).take 4 = B ∧ (A ++ B ++ l ++ B ++ r).drop (l.length + 12) = r := by
  have e8 : (A ++ B).length = 8 := by rw [List.length_append]; omega
  have e8l : (A ++ B ++ l).length = 8 + l.length := by rw [List.length_append]; omega
  have e12 : (A ++ B ++ l ++ B).length = l.length + 12 := by rw [List.length_append]; omega
  refine ⟨?_, ?_, ?_, ?_, ?_⟩
  · rw [List.append_assoc, List.append_assoc, List.append_assoc, ← hA, List.take_left]
  · rw [List.append_assoc, List.append_assoc, List.append_assoc, ← hA, List.drop_left, hA, ← hB, List.take_left]
  · rw [List.append_assoc, List.append_assoc, ← e8, List.drop_left, List.take_left]
  · rw [List.append_assoc, ← e8l, List.drop_left, ← hB, List.take_left]
  · rw [← e12, List.drop_left]

theorem block_right (k : Int) (l r : List UInt8) (big : Bool) (h : blockOk k l) :
    Right (blockT k l big ++ r) big l.length ∧ numOf ((blockT k l big ++ r).take 4) big = k ∧ ((blockT k l big ++ r).drop 8).take l.length = l ∧ (blockT k l big ++ r).drop (l.length + 12) = r ∧ (blockT k l big).length = l.length + 12 := by
  have ok1 : putOk k 4 := ⟨by omega, by omega, h.1, by have := h.2.1; simpa using this⟩
  have ok2 : putOk ((l.length : Int) + 12) 4 := ⟨by omega, by omega, by omega, by have := h.2.2.1; simp; omega⟩
  obtain ⟨a1, a2⟩ := numL_four k big ok1
  obtain ⟨b1, b2⟩ := numL_four ((l.length : Int) + 12) big ok2
  obtain ⟨p1, p2, p3, p4, p5⟩ := blockT_parts (numL k 4 big) (numL ((l.length : Int) + 12) 4 big) l r a1 b1
  have hl : (blockT k l big).length = l.length + 12 := by unfold blockT; simp only [List.length_append]; omega
  refine ⟨⟨?_, h.2.2.2, h.2.2.1, ?_, ?_⟩, ?_, ?_, ?_, hl⟩
  · unfold sizeOf blockT; rw [p2, b2]
  · rw [List.length_append, hl]; omega
  · unfold blockT; rw [p4, b2]
  · unfold blockT; rw [p1, a2]
  · unfold blockT; exact p3
  · unfold blockT; exact p5

end Go.Proofs.Ytbhbbmocioefnaa
