/- WdI -/
import Derived.Test.YtedhemllgpbheaaQ9
import Derived.Test.YtedhemllgpbheaaQ10
import Derived.Deep.DeepCutAuto
import Derived.LoopTactic
namespace Go.Proofs.Ytedhemllgpbheaa
open Go.RowKit
open P7 (Pk PkAt pcsOk prefL PcsP pcs_of pcs_yes pc1)

theorem row_grown {w a b : World} {e : TypeId} {v : Value} {m s : Nat} {ys : List Value} (ho : a.ownsRow w.heap.size e s v m ys) (h : w.grownBy a none) (k : a.grownBy b v.ownBlock) : w.grownBy b none := grown_row_none h k ho (Nat.le_refl _)
def StRel (w : World) (f : Int) (K : Nat) (v i : Value) (wr : World) : Prop :=
  ∃ j : Nat, j ≤ K ∧ i = .int .i64 (f + (j : Int)) ∧ w.grownBy wr none ∧ wr.ownsRow w.heap.size 5 1 v j (bytesV (strL f j))
theorem char_at (f : Int) (j : Nat) (h0 : 0 ≤ f) : ∃ (R : Int) (B : UInt8), (f + (j : Int)).tmod 26 = R ∧ (f + (j : Int)) % 26 = R ∧ IntKind.i64.wrap R = R ∧ IntKind.u8.wrap R = R ∧ IntKind.u8.wrap (97 + R) = (B.toNat : Int) ∧ strL f (j + 1) = strL f j ++ [B] := by
  refine ⟨((f.toNat + j) % 26 : Nat), _, ?_, ?_, ?_, ?_, ?_, strL_snoc f j⟩
  · rw [Int.tmod_eq_emod_of_nonneg (by omega)]; omega
  · omega
  · exact IntWalk.i64_in _ (by omega)
  · have hx : (f.toNat + j) % 26 < 26 := Nat.mod_lt _ (by decide)
    simp only [IntKind.wrap, show IntKind.u8.bits = 8 from rfl, show IntKind.u8.signed = false from rfl, Bool.false_and, Bool.false_eq_true, if_false]; omega
  · have hx : (f.toNat + j) % 26 < 26 := Nat.mod_lt _ (by decide)
    generalize (f.toNat + j) % 26 = x at *
    have e3 : IntKind.u8.wrap (97 + (x : Int)) = 97 + (x : Int) := by
      simp only [IntKind.wrap, show IntKind.u8.bits = 8 from rfl, show IntKind.u8.signed = false from rfl, Bool.false_and, Bool.false_eq_true, if_false]; omega
    rw [e3]
    simp
    omega


/-- A range lies in a piece. -/
def inP (x : Rg) (p : Pk) : Prop := p.1 ≤ x.1 ∧ x.2 ≤ p.1 + (p.2.length : Int)
instance (x : Rg) (p : Pk) : Decidable (inP x p) := by unfold inP; infer_instance

def HaRel (w : World) (l : List Pk) (x : Rg) (i : Value) (wr : World) : Prop := ∃ j : Nat, j ≤ l.length ∧ i = .int .i64 j ∧ w.grownBy wr none ∧ ∀ p ∈ l.take j, ¬ inP x p

end Go.Proofs.Ytedhemllgpbheaa

