/- Which frames are right: the program's own test and the model's, over every frame. -/
import Derived.Test.YtihaamgimakcoaaPut
namespace Go.Proofs.Ytihaamgimakcoaa
open Go.RowKit

def frameOk (t f : List UInt8) (v k : Int) (b : List UInt8) : Prop := t.length = 6 ∧ f.length = 6 ∧ -1 ≤ v ∧ v ≤ 4095 ∧ 1536 ≤ k ∧ k ≤ 65535 ∧ k ≠ 33024 ∧ b.length ≤ 382
instance (t f : List UInt8) (v k : Int) (b : List UInt8) : Decidable (frameOk t f v k b) := by unfold frameOk; infer_instance
abbrev frameV (t f : List UInt8) (v k : Int) (b : List UInt8) : Value := .agg #[.string ⟨t.toArray⟩, .string ⟨f.toArray⟩, .int .i64 v, .int .i64 k, .string ⟨b.toArray⟩]

set_option maxRecDepth 100000 in
theorem wordOk_any (n : Int) (w : World) : Calls Try.prog 86 #[.int .i64 n] w fun e w' => e = .returned (.bool (inB n 0 65535)) ∧ w = w' := by
  by_cases h1 : 0 ≤ n
  · by_cases h2 : n ≤ 65535
    all_goals
      go_enter Try.func86, Try.ntmps86
      go_wp2
      go_ret
      exact ⟨ret_b (by unfold inB; simp; omega), rfl⟩
  · go_enter Try.func86, Try.ntmps86
    go_wp2
    go_ret
    exact ⟨ret_b (by unfold inB; simp; omega), rfl⟩

set_option maxRecDepth 100000 in
theorem address_any (l : List UInt8) (w : World) : Calls Try.prog 93 #[.string ⟨l.toArray⟩] w fun e w' => e = .returned (.bool (decide (l.length = 6))) ∧ w = w' := by
  by_cases h1 : l.length = 6
  all_goals
    go_enter Try.func93, Try.ntmps93
    go_wp2
    go_ret
    exact ⟨ret_b (by simp [h1]; try omega), rfl⟩

set_option maxRecDepth 100000 in
set_option maxHeartbeats 400000 in
theorem frame_ok_spec (t f : List UInt8) (v k : Int) (b : List UInt8) (w : World) : Calls Try.prog 85 #[frameV t f v k b] w fun e w' => e = .returned (.bool (decide (frameOk t f v k b))) ∧ w.grownBy w' none := by
  cases h3 : inB v (-1) 4095
  all_goals
    have h3' := h3
    simp only [inB, decide_eq_true_eq, decide_eq_false_iff_not] at h3'
    cases h4 : inB k 1536 65535
    all_goals
      have h4' := h4
      simp only [inB, decide_eq_true_eq, decide_eq_false_iff_not] at h4'
      go_enter Try.func85, Try.ntmps85
      go_wp2_with (go_at_call 27; refine (in_any _ _ _ _).mono ?_; rintro e w' ⟨rfl, rfl⟩; first | rw [h3] | rw [h4])
      all_goals
        go_ret
        refine ⟨ret_b ?_, World.grownBy_alloc _ _ _⟩
        first
        | (symm; exact decide_eq_true (by unfold frameOk; omega))
        | (symm; exact decide_eq_false (by unfold frameOk; omega))
        | (have hs : ({ data := b.toArray } : ByteArray).size = b.length := rfl; refine Bool.eq_iff_iff.mpr ?_; simp only [Bool.and_eq_true, bne_iff_ne, ne_eq, decide_eq_true_eq]; unfold frameOk; omega)

set_option maxRecDepth 100000 in
set_option maxHeartbeats 400000 in
theorem frame_ok_impl (t f : List UInt8) (v k : Int) (b : List UInt8) (w : World) : Calls Try.prog 68 #[frameV t f v k b] w fun e w' => e = .returned (.bool (decide (frameOk t f v k b))) ∧ w.grownBy w' none := by
  cases h4 : inB k 0 65535
  all_goals
    have h4' := h4
    simp only [inB, decide_eq_true_eq, decide_eq_false_iff_not] at h4'
    cases h1 : decide (t.length = 6)
    all_goals
      have h1' := h1
      simp only [decide_eq_true_eq, decide_eq_false_iff_not] at h1'
      cases h2 : decide (f.length = 6)
      all_goals
        have h2' := h2
        simp only [decide_eq_true_eq, decide_eq_false_iff_not] at h2'
        have K1 := Lib.hid h1
        have K2 := Lib.hid h2
        have K4 := Lib.hid h4
        clear h1 h2 h4
        go_enter Try.func68, Try.ntmps68
        go_wp2_with (first
          | (go_at_call 86; refine (wordOk_any _ _).mono ?_; rintro e w' ⟨rfl, rfl⟩; rw [K4.out])
          | (go_at_call 93; refine (address_any _ _).mono ?_; rintro e w' ⟨rfl, rfl⟩; first | rw [K1.out] | rw [K2.out]))
        all_goals
          go_ret
          refine ⟨ret_b ?_, World.grownBy_alloc _ _ _⟩
          first
          | (symm; exact decide_eq_true (by unfold frameOk; omega))
          | (symm; exact decide_eq_false (by unfold frameOk; omega))
          | (have hs : ({ data := b.toArray } : ByteArray).size = b.length := rfl; refine Bool.eq_iff_iff.mpr ?_; simp only [Bool.and_eq_true, bne_iff_ne, ne_eq, decide_eq_true_eq]; unfold frameOk; omega)

end Go.Proofs.Ytihaamgimakcoaa
