/- The laws' own marking of pieces, and whether the marks are held. -/
import Derived.Test.YtaigdimicnlfdaaPcs
import Derived.Test.YtaigdimicnlfdaaOct
namespace Go.Proofs.Ytaigdimicnlfdaa
open Go.RowKit

def dgs : Nat → Nat → List UInt8 → List UInt8
  | 0, _, out => out
  | f + 1, k, out => if k = 0 then out else dgs f (k / 10) (UInt8.ofNat (48 + k % 10) :: out)
def mt (k : Nat) : List UInt8 := 109 :: dgs (k + 1) k []

def MtRel (w : World) (k0 : Nat) (k o : Value) (wr : World) : Prop :=
  ∃ (q f : Nat) (out : List UInt8), k = .int .i64 (q : Nat) ∧ o = .string ⟨out.toArray⟩ ∧ dgs (k0 + 1) k0 [] = dgs f q out ∧ q < f ∧ q ≤ k0 ∧ out.length + f = k0 + 1 ∧ w.grownBy wr none

def mkL (n : Nat) : List Pk := (List.range n).map fun (i : Nat) => (1 + 2 * (i : Int), mt (2 + 2 * i))
theorem mkL_len (n : Nat) : (mkL n).length = n := by simp [mkL]
theorem mkL_at (n j : Nat) (h : j < (mkL n).length) : (mkL n)[j] = (1 + 2 * (j : Int), mt (2 + 2 * j)) := by simp [mkL]

def MkRel (w : World) (base g cap n : Nat) (l : List Pk) (k i : Value) (wr : World) : Prop :=
  ∃ j : Nat, j ≤ n ∧ i = .int .i64 j ∧ k = .int .i64 (1 + 2 * (j : Int)) ∧ w.grownBy wr (some g) ∧ wr.ownsRow base 57 2 (.slice (some ⟨g, 0, none⟩) n cap) n (pksV ((mkL n).take j) ++ (pksV l).drop (j * 2))

theorem grown_trans_none {a b c : World} {r : Option Nat} (h : a.grownBy b r) (k : b.grownBy c none) : a.grownBy c r :=
  ⟨k.os.trans h.os, k.tape.trans h.tape, k.output.trans h.output, Nat.le_trans h.size k.size, fun i hi hne => (k.block i (Nat.lt_of_lt_of_le hi h.size) (by simp)).trans (h.block i hi hne)⟩

def HdRel (w : World) (n : Nat) (k i : Value) (wr : World) : Prop :=
  ∃ j : Nat, j ≤ n ∧ i = .int .i64 j ∧ k = .int .i64 (1 + 2 * (j : Int)) ∧ w.grownBy wr none

theorem pk_own {w : World} {base : Nat} {e : TypeId} {ao : Option Addr} {c : Nat} {l : List Pk} (h : w.ownsRow base e 2 (.slice ao l.length c) l.length (pksV l)) : PkAt w ao l := by
  rcases h.2 with ⟨_, h0⟩ | ⟨g, cap', cur, hv, _⟩
  · exact .inl (List.length_eq_zero_iff.mp h0)
  · simp at hv
    obtain ⟨rfl, rfl⟩ := hv
    exact pkAt_own h rfl
theorem pk_mark {w : World} {base : Nat} {e : TypeId} {ao : Option Addr} {c n : Nat} (h : w.ownsRow base e 2 (.slice ao n c) n (pksV (mkL n))) : PkAt w ao (mkL n) := by
  have hn := mkL_len n
  rcases h.2 with ⟨_, h0⟩ | ⟨g, cap', cur, hv, _⟩
  · exact .inl (List.length_eq_zero_iff.mp (by omega))
  · simp at hv
    obtain ⟨rfl, rfl⟩ := hv
    exact pkAt_own h hn.symm
theorem own_slice {w : World} {base : Nat} {e : TypeId} {v : Value} {n s : Nat} {xs : List Value} (h : w.ownsRow base e s v n xs) : ∃ ao c, v = .slice ao n c := by
  rcases h.2 with ⟨hv, h0⟩ | ⟨g, cap, cur, hv, _⟩
  · exact ⟨none, 0, by rw [hv, h0]⟩
  · exact ⟨_, _, hv⟩
theorem own_apart {w a : World} {B C : Nat} {e : TypeId} {u v : Value} {n m s : Nat} {xs ys : List Value} (h : w.ownsRow B e s u n xs) (k : a.ownsRow C e s v m ys) (hC : w.heap.size ≤ C) : u.ownBlock = none ∨ u.ownBlock ≠ v.ownBlock := by
  cases hu : u.ownBlock with
  | none => exact .inl rfl
  | some g =>
    refine .inr fun e => ?_
    have h1 := (h.lt g hu).2
    have h2 := (k.lt g e.symm).1
    omega
theorem grown_row_none {w a b : World} {C : Nat} {e : TypeId} {v : Value} {m s : Nat} {ys : List Value} (h : w.grownBy a none) (k : a.grownBy b v.ownBlock) (ho : a.ownsRow C e s v m ys) (hC : w.heap.size ≤ C) : w.grownBy b none := by
  cases hv : v.ownBlock with
  | none => rw [hv] at k; exact grownBy_trans h k
  | some g =>
    rw [hv] at k
    exact grownBy_new h k (Nat.le_trans hC (ho.lt g hv).1)

end Go.Proofs.Ytaigdimicnlfdaa
