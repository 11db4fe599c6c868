/- Whether pieces are right: the model's; one piece that is added. -/
import Derived.Test.YtaigdimicnlfdaaPcMath
namespace Go.Proofs.Ytaigdimicnlfdaa
open Go.RowKit

theorem in_q (n a b : Int) (v : Bool) (h : inB n a b = v) (w : World) (k : Nat) : Calls Try.prog 20 #[.int .i64 n, .int .i64 a, .int .i64 b] (w.drewN k) fun e w'' => e = .returned (.bool v) ∧ ∃ m, w'' = w.drewN m :=
  (in_any n a b _).mono (by rintro e w' ⟨rfl, rfl⟩; exact ⟨by rw [h], k, rfl⟩)

def PsRel (w : World) (l : List Pk) (i : Value) (wr : World) : Prop :=
  ∃ j : Nat, j ≤ l.length ∧ i = .int .i64 j ∧ w.grownBy wr none ∧ (∀ x ∈ l.take j, pc1 x) ∧ ApartTo l j

end Go.Proofs.Ytaigdimicnlfdaa
