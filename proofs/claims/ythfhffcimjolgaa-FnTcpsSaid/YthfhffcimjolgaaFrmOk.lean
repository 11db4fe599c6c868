/- Which frames are right: the program's own test and the model's, over every frame. -/
import Derived.Test.YthfhffcimjolgaaPut
namespace Go.Proofs.Ythfhffcimjolgaa
open Go.RowKit

def frameOk (t f : List UInt8) (v k : Int) (b : List UInt8) : Prop := t.length = 6 ∧ f.length = 6 ∧ -1 ≤ v ∧ v ≤ 4095 ∧ 1536 ≤ k ∧ k ≤ 65535 ∧ k ≠ 33024 ∧ b.length ≤ 382
instance (t f : List UInt8) (v k : Int) (b : List UInt8) : Decidable (frameOk t f v k b) := by unfold frameOk; infer_instance
abbrev frameV (t f : List UInt8) (v k : Int) (b : List UInt8) : Value := .agg #[.string ⟨t.toArray⟩, .string ⟨f.toArray⟩, .int .i64 v, .int .i64 k, .string ⟨b.toArray⟩]

set_option maxRecDepth 100000 in
theorem wordOk_any (n : Int) (w : World) : Calls Try.prog 35 #[.int .i64 n] w fun e w' => e = .returned (.bool (inB n 0 65535)) ∧ w = w' := by
  by_cases h1 : 0 ≤ n
  · by_cases h2 : n ≤ 65535
    all_goals
      go_enter Try.func35, Try.ntmps35
      go_wp2
      go_ret
      exact ⟨ret_b (by unfold inB; simp; omega), rfl⟩
  · go_enter Try.func35, Try.ntmps35
    go_wp2
    go_ret
    exact ⟨ret_b (by unfold inB; simp; omega), rfl⟩

end Go.Proofs.Ythfhffcimjolgaa
