/- Contracts of writing a number as bytes, the program's own and the model's, over every two numbers. -/
import Derived.Test.YtaigdimicnlfdaaTurn
import Derived.LoopN
namespace Go.Proofs.Ytaigdimicnlfdaa
open Go.RowKit

/-- The lowest k bytes of a number, the highest first. -/
def beL (n : Nat) : Nat → List UInt8
  | 0 => []
  | k + 1 => beL (n / 256) k ++ [UInt8.ofNat (n % 256)]
theorem beL_length (n : Nat) : ∀ k, (beL n k).length = k := by
  intro k
  induction k generalizing n with
  | zero => rfl
  | succ k ih => simp [beL, ih]
def putOk (n width : Int) : Prop := 1 ≤ width ∧ width ≤ 6 ∧ 0 ≤ n ∧ n < 256 ^ width.toNat
instance (n width : Int) : Decidable (putOk n width) := by unfold putOk; infer_instance
def putL (n width : Int) : List UInt8 := if putOk n width then beL n.toNat width.toNat else []
theorem putL_ok {n width : Int} (h : putOk n width) : putL n width = beL n.toNat width.toNat := by unfold putL; rw [if_pos h]
theorem putL_not {n width : Int} (h : ¬ putOk n width) : putL n width = [] := by unfold putL; rw [if_neg h]

def BeRel (w : World) (n0 : Nat) (W : Nat) (n i : Value) (wr : World) : Prop :=
  ∃ (r m : Nat) (t : List UInt8), r + t.length = W ∧ n = .int .i64 (m : Nat) ∧ ((r = 0 ∧ i = .int .i64 (-1)) ∨ ∃ q, r = q + 1 ∧ i = .int .i64 (q : Nat)) ∧ m ≤ n0 ∧
    beL n0 W = beL m r ++ t ∧ wr.ownsRow w.heap.size 5 1 (.slice (some ⟨w.heap.size, 0, none⟩) W W) W (bytesV (List.replicate r 0 ++ t)) ∧ w.grownBy wr none

theorem byte_of (m : Nat) : ((UInt8.ofNat (m % 256)).toNat : Int) = (m : Int) % 256 := by
  simp
theorem bytesV_at (q : Nat) (t : List UInt8) : (bytesV (List.replicate (q + 1) 0 ++ t))[q]? = some (.int .u8 0) := by
  simp [bytesV, List.getElem?_append]
theorem bytesV_set (q : Nat) (t : List UInt8) (x : UInt8) : (bytesV (List.replicate (q + 1) 0 ++ t)).set q (.int .u8 (x.toNat : Int)) = bytesV (List.replicate q 0 ++ x :: t) := by
  simp only [bytesV, ← List.map_set]
  congr 1
  rw [List.set_append_left _ _ (by simp)]
  rw [List.replicate_succ', List.set_append_right _ _ (by simp)]
  simp

theorem ret_s {a b : List UInt8} (h : a = b) : Ending.returned (.string ⟨a.toArray⟩) = .returned (.string ⟨b.toArray⟩) := by rw [h]

theorem pow_bd (k : Int) (h1 : 1 ≤ k) (h6 : k ≤ 6) : (256 : Int) ^ k.toNat ≤ 281474976710656 := by
  have : k = 1 ∨ k = 2 ∨ k = 3 ∨ k = 4 ∨ k = 5 ∨ k = 6 := by omega
  rcases this with rfl | rfl | rfl | rfl | rfl | rfl <;> decide

theorem shift_small (n k : Int) (h1 : 1 ≤ k) (h6 : k ≤ 6) : n / 2 ^ (8 * k.toNat) = 0 ↔ 0 ≤ n ∧ n < 256 ^ k.toNat := by
  have : k = 1 ∨ k = 2 ∨ k = 3 ∨ k = 4 ∨ k = 5 ∨ k = 6 := by omega
  rcases this with rfl | rfl | rfl | rfl | rfl | rfl <;> simp <;> omega

end Go.Proofs.Ytaigdimicnlfdaa
