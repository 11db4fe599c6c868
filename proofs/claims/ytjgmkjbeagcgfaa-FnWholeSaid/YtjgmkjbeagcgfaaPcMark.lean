/- The laws' own marking of pieces, and whether the marks are held. -/
import Derived.Test.YtjgmkjbeagcgfaaPcs
import Derived.Test.YtjgmkjbeagcgfaaOct
namespace Go.Proofs.Ytjgmkjbeagcgfaa
open Go.RowKit

def dgs : Nat → Nat → List UInt8 → List UInt8
  | 0, _, out => out
  | f + 1, k, out => if k = 0 then out else dgs f (k / 10) (UInt8.ofNat (48 + k % 10) :: out)
def mt (k : Nat) : List UInt8 := 109 :: dgs (k + 1) k []

def MtRel (w : World) (k0 : Nat) (k o : Value) (wr : World) : Prop :=
  ∃ (q f : Nat) (out : List UInt8), k = .int .i64 (q : Nat) ∧ o = .string ⟨out.toArray⟩ ∧ dgs (k0 + 1) k0 [] = dgs f q out ∧ q < f ∧ q ≤ k0 ∧ out.length + f = k0 + 1 ∧ w.grownBy wr none

set_option maxRecDepth 100000 in
theorem mark_text (k0 : Nat) (w : World) (h0 : 0 < k0) (h1 : k0 ≤ 4000000) : Calls Try.prog 30 #[.int .i64 (k0 : Nat)] w (StrPost w (mt k0)) := by
  have hp : 0 < (k0 : Int) := by omega
  go_enter Try.func30, Try.ntmps30
  go_wp2_with fail
  go_loopw [0, 3] (fun k o wr => MtRel w k0 k o wr) (fun k _ _ => (intOf k).toNat)
  case atStart => exact ⟨k0, k0 + 1, [], rfl, rfl, rfl, by omega, Nat.le_refl _, by simp, World.grownBy.refl _ _⟩
  case round =>
    obtain ⟨q, f, out, rfl, rfl, hd, hqf, hq0, hof, hg⟩ := hrel
    have HS := Lib.hid (And.intro hg hd)
    clear hg hd
    obtain ⟨f, rfl⟩ : ∃ f', f = f' + 1 := ⟨f - 1, by omega⟩
    by_cases h : q = 0
    · subst h
      have HE := Lib.hid (show dgs (k0 + 1) k0 [] = out by rw [HS.out.2, dgs, if_pos rfl])
      have hk1 : ¬ 9223372036854775807 < 1 + out.length := by omega
      go_wp2_with fail
      go_ret
      exact ⟨ret_ba (by rw [mt, HE.out, show (109 :: out) = [109] ++ out from rfl, ← ba_append]), HS.out.1⟩
    · have HE := Lib.hid (show dgs (k0 + 1) k0 [] = dgs f (q / 10) (UInt8.ofNat (48 + q % 10) :: out) by rw [HS.out.2, dgs, if_neg h])
      have hq1 : 0 < (q : Int) := by omega
      have hb1 : 0 ≤ 48 + (q : Int) % 10 := by omega
      have hb2 : 48 + (q : Int) % 10 ≤ 255 := by omega
      have hb3 : IntKind.u8.wrap (48 + (q : Int) % 10) = 48 + (q : Int) % 10 := by rw [IntKind.wrap]; simp [IntKind.bits, IntKind.signed]; omega
      have hdt : ((UInt8.ofNat (48 + q % 10)).toNat : Int) = 48 + (q : Int) % 10 := by simp; omega
      have HQ := Lib.hid (show ∀ d, UInt8.ofNat (48 + q % 10) = d → dgs (k0 + 1) k0 [] = dgs f (q / 10) (d :: out) from fun d hd => by rw [← hd]; exact HE.out)
      clear HE
      generalize hdd : UInt8.ofNat (48 + q % 10) = d at *
      have HDD := Lib.hid (HQ.out d (by first | exact hdd | rfl))
      clear hdd HQ
      have hcv := conv_new wr #[.int .u8 (48 + (q : Int) % 10)] 5 1 1 [d] rfl (fun j hj => (by have hj' : j = 0 := (by simp at hj; omega); subst hj'; simp; omega))
      clear hdt
      have hk1 : ¬ 9223372036854775807 < 1 + out.length := by omega
      go_wp2_with fail
      go_roundw
      case rel => exact ⟨q / 10, f, d :: out, by go_num, by rw [show d :: out = [d] ++ out from rfl, ← ba_append], HDD.out, by omega, by omega, by simp; omega, grownBy_trans HS.out.1 (World.grownBy_alloc _ _ _)⟩
      case measure => simp [intOf]; omega

theorem mark_text2 (x : Int) (k0 : Nat) (w : World) (hx : x = (k0 : Int)) (h0 : 0 < k0) (h1 : k0 ≤ 4000000) : Calls Try.prog 30 #[.int .i64 x] w (StrPost w (mt k0)) := by
  subst hx
  exact mark_text k0 w h0 h1

def mkL (n : Nat) : List Pk := (List.range n).map fun (i : Nat) => (1 + 2 * (i : Int), mt (2 + 2 * i))
theorem mkL_len (n : Nat) : (mkL n).length = n := by simp [mkL]
theorem mkL_at (n j : Nat) (h : j < (mkL n).length) : (mkL n)[j] = (1 + 2 * (j : Int), mt (2 + 2 * j)) := by simp [mkL]

def MkRel (w : World) (base g cap n : Nat) (l : List Pk) (k i : Value) (wr : World) : Prop :=
  ∃ j : Nat, j ≤ n ∧ i = .int .i64 j ∧ k = .int .i64 (1 + 2 * (j : Int)) ∧ w.grownBy wr (some g) ∧ wr.ownsRow base 55 2 (.slice (some ⟨g, 0, none⟩) n cap) n (pksV ((mkL n).take j) ++ (pksV l).drop (j * 2))

theorem grown_trans_none {a b c : World} {r : Option Nat} (h : a.grownBy b r) (k : b.grownBy c none) : a.grownBy c r :=
  ⟨k.os.trans h.os, k.tape.trans h.tape, k.output.trans h.output, Nat.le_trans h.size k.size, fun i hi hne => (k.block i (Nat.lt_of_lt_of_le hi h.size) (by simp)).trans (h.block i hi hne)⟩

def HdRel (w : World) (n : Nat) (k i : Value) (wr : World) : Prop :=
  ∃ j : Nat, j ≤ n ∧ i = .int .i64 j ∧ k = .int .i64 (1 + 2 * (j : Int)) ∧ w.grownBy wr none

theorem pk_own {w : World} {base : Nat} {e : TypeId} {ao : Option Addr} {c : Nat} {l : List Pk} (h : w.ownsRow base e 2 (.slice ao l.length c) l.length (pksV l)) : PkAt w ao l := by
  rcases h.2 with ⟨_, h0⟩ | ⟨g, cap', cur, hv, _⟩
  · exact .inl (List.length_eq_zero_iff.mp h0)
  · simp at hv
    obtain ⟨rfl, rfl⟩ := hv
    exact pkAt_own h rfl
theorem pk_mark {w : World} {base : Nat} {e : TypeId} {ao : Option Addr} {c n : Nat} (h : w.ownsRow base e 2 (.slice ao n c) n (pksV (mkL n))) : PkAt w ao (mkL n) := by
  have hn := mkL_len n
  rcases h.2 with ⟨_, h0⟩ | ⟨g, cap', cur, hv, _⟩
  · exact .inl (List.length_eq_zero_iff.mp (by omega))
  · simp at hv
    obtain ⟨rfl, rfl⟩ := hv
    exact pkAt_own h hn.symm
theorem own_slice {w : World} {base : Nat} {e : TypeId} {v : Value} {n s : Nat} {xs : List Value} (h : w.ownsRow base e s v n xs) : ∃ ao c, v = .slice ao n c := by
  rcases h.2 with ⟨hv, h0⟩ | ⟨g, cap, cur, hv, _⟩
  · exact ⟨none, 0, by rw [hv, h0]⟩
  · exact ⟨_, _, hv⟩
theorem own_apart {w a : World} {B C : Nat} {e : TypeId} {u v : Value} {n m s : Nat} {xs ys : List Value} (h : w.ownsRow B e s u n xs) (k : a.ownsRow C e s v m ys) (hC : w.heap.size ≤ C) : u.ownBlock = none ∨ u.ownBlock ≠ v.ownBlock := by
  cases hu : u.ownBlock with
  | none => exact .inl rfl
  | some g =>
    refine .inr fun e => ?_
    have h1 := (h.lt g hu).2
    have h2 := (k.lt g e.symm).1
    omega
theorem grown_row_none {w a b : World} {C : Nat} {e : TypeId} {v : Value} {m s : Nat} {ys : List Value} (h : w.grownBy a none) (k : a.grownBy b v.ownBlock) (ho : a.ownsRow C e s v m ys) (hC : w.heap.size ≤ C) : w.grownBy b none := by
  cases hv : v.ownBlock with
  | none => rw [hv] at k; exact grownBy_trans h k
  | some g =>
    rw [hv] at k
    exact grownBy_new h k (Nat.le_trans hC (ho.lt g hv).1)

end Go.Proofs.Ytjgmkjbeagcgfaa
