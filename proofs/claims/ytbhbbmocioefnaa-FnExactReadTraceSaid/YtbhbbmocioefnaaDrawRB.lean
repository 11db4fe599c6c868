/- The drawing of a text that is read as a block: some text of at most forty bytes, and an order. -/
import Derived.Test.YtbhbbmocioefnaaHurt
namespace Go.Proofs.Ytbhbbmocioefnaa
open Go.RowKit

def DrawRPost (w : World) (most : Nat) (e : Ending) (w' : World) : Prop :=
  ∃ (t : List UInt8) (b : Bool), t.length ≤ most ∧ e = .returned (.tuple #[.string ⟨t.toArray⟩, .bool b]) ∧ w.grownBy w' none

theorem blockL_len (k : Int) (l : List UInt8) (big : Bool) : (blockL k l big).length ≤ l.length + 18 := by
  unfold blockL
  split
  · have a := numL_len k 4 big
    have b := numL_len (l.length + 12) 4 big
    unfold blockT
    simp only [List.length_append]
    omega
  · simp

end Go.Proofs.Ytbhbbmocioefnaa
