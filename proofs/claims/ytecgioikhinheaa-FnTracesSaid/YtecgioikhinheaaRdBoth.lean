/- Both readings of a block answer alike; where there is one it has, written again, the bytes that it was read from. -/
import Derived.Test.YtecgioikhinheaaBlkB
import Derived.Test.YtecgioikhinheaaDrawRB
import Derived.Test.YtecgioikhinheaaRdSpec
namespace Go.Proofs.Ytecgioikhinheaa
open Go.RowKit

def ReadAny (w : World) (K : Int) (L : List UInt8) (n : Nat) (b : Bool) (e : Ending) (w' : World) : Prop :=
  e = .returned (.tuple #[.agg #[.int .i64 K, .string ⟨L.toArray⟩], .int .i64 (n : Int), .bool b]) ∧ w.grownBy w' none
/-- What is read of a text as a block. -/
structure ReadAs (t : List UInt8) (big : Bool) (K : Int) (L : List UInt8) (n : Nat) (b : Bool) : Prop where
  impl : ∀ w, Calls Try.prog 14 #[.string ⟨t.toArray⟩, .bool big] w (ReadAny w K L n b)
  spec : ∀ w, Calls Try.prog 15 #[.string ⟨t.toArray⟩, .bool big] w (ReadAny w K L n b)
  few : n ≤ t.length
  most : L.length ≤ 800
  same : b = true → blockL K L big = t.take n

theorem read_both (t : List UInt8) (big : Bool) (hl : t.length ≤ 1000000000000) : ∃ K L n b, ReadAs t big K L n b := by
  by_cases hR : ∃ q, Right t big q
  · obtain ⟨q, hR⟩ := hR
    have h1 := hR.here
    have h2 := hR.most
    refine ⟨numOf (t.take 4) big, (t.drop 8).take q, q + 12, true, fun w => ?_, fun w => ?_, h1, by simp; omega, fun _ => ?_⟩
    · refine (read_yes t big q w hR hl).mono ?_
      rintro e w' ⟨rfl, hg⟩
      exact ⟨rfl, hg⟩
    · refine (spec_read_yes t big q w hR).mono ?_
      rintro e w' ⟨rfl, hg⟩
      exact ⟨rfl, hg⟩
    · obtain ⟨hb, he⟩ := block_back t big q hR
      rw [blockL, if_pos hb, he]
  · have hN : ∀ q, ¬ Right t big q := fun q hq => hR ⟨q, hq⟩
    refine ⟨0, [], 0, false, fun w => ?_, fun w => ?_, Nat.zero_le _, by simp, fun h => by simp at h⟩
    · refine (read_no t big w hN hl).mono ?_
      rintro e w' ⟨rfl, hg⟩
      exact ⟨rfl, hg⟩
    · refine (spec_read_no t big w hN).mono ?_
      rintro e w' ⟨rfl, hg⟩
      exact ⟨rfl, hg⟩

end Go.Proofs.Ytecgioikhinheaa
