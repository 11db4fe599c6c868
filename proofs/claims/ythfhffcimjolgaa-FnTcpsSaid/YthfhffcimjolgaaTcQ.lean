/- A text of ranges: the program's reading. -/
import Derived.Test.YthfhffcimjolgaaTcR
import Derived.Test.YthfhffcimjolgaaTcD
import Derived.LoopTactic
namespace Go.Proofs.Ythfhffcimjolgaa
open Go.RowKit

theorem get_a {t : List UInt8} {x : Int} (hx : getBe (t.take 4) = x) (w : World) (hr : t.length ≤ 100000) : Calls Try.prog 45 #[.string (({ data := t.toArray } : ByteArray).extract 0 4)] w fun e w' => e = .returned (.int .i64 x) ∧ w' = w := by
  have k := get_still t 4 w (by omega)
  rw [hx] at k
  exact k
theorem get_b {t : List UInt8} {y : Int} (hy : getBe ((t.drop 4).take 4) = y) (w : World) (hr : t.length ≤ 100000) : Calls Try.prog 45 #[.string (({ data := t.toArray } : ByteArray).extract 4 8)] w fun e w' => e = .returned (.int .i64 y) ∧ w' = w := by
  have e : ({ data := t.toArray } : ByteArray).extract 4 8 = ({ data := (t.drop 4).toArray } : ByteArray).extract 0 4 := by rw [str_mid, str_mid]; simp
  have k := get_still (t.drop 4) 4 w (by rw [List.length_drop]; omega)
  rw [hy] at k
  rw [e]
  exact k
def strL : Value → Nat
  | .string b => b.size
  | _ => 0
def RgsRel (w : World) (s : List UInt8) (K : Nat) (t l : Value) (wr : World) : Prop :=
  ∃ j : Nat, j ≤ K ∧ t = .string ⟨(s.drop (8 * j)).toArray⟩ ∧ wr.ownsRow w.heap.size 61 2 l j (rgsV (rgsOfL s j)) ∧ w.grownBy wr none
def RgsPost (w : World) (s : List UInt8) (K : Nat) (e : Ending) (w' : World) : Prop :=
  ∃ v, e = .returned v ∧ w'.ownsRow w.heap.size 61 2 v K (rgsV (rgsOfL s K)) ∧ w.grownBy w' none

theorem row_on {w w1 w2 wz : World} {T : TypeId} {v : Value} {n s : Nat} {xs : List Value} (ho : w1.ownsRow w.heap.size T s v n xs) (h1 : w.grownBy w1 none) (h2 : w2.grownBy wz v.ownBlock) (h3 : w1.grownBy w2 none := by first | exact grownBy_trans grownBy_drew (World.grownBy_alloc _ _ none)) : w.grownBy wz none :=
  ⟨h2.os.trans ((h3.os.trans h1.os)), h2.tape.trans (h3.tape.trans h1.tape), h2.output.trans (h3.output.trans h1.output), Nat.le_trans h1.size (Nat.le_trans h3.size h2.size), fun i hi _ => (h2.block i (Nat.lt_of_lt_of_le hi (Nat.le_trans h1.size h3.size)) (fun e => by have := (ho.lt i e.symm).1; omega)).trans ((h3.block i (Nat.lt_of_lt_of_le hi h1.size) (by simp)).trans (h1.block i hi (by simp)))⟩
theorem rgsV_snoc (l : List Rg) (x y : Int) : rgsV (l ++ [(x, y)]) = rgsV l ++ [.int .i64 x, .int .i64 y] := by simp [rgsV, rgV]

set_option maxRecDepth 100000 in
set_option maxHeartbeats 600000 in
theorem ranges_any (s : List UInt8) (K : Nat) (w : World) (hs : s.length = 8 * K) (hK : K ≤ 1000) : Calls Try.prog 47 #[.string ⟨s.toArray⟩] w (RgsPost w s K) := by
  obtain ⟨i0, hi, hz0, hz1, hz2⟩ := t_info infoRg
  go_enter Try.func47, Try.ntmps47
  go_wp2_with fail
  go_loopw [0, 3] (fun t l wr => RgsRel w s K t l wr) (fun t _ _ => strL t)
  case atStart => exact ⟨0, Nat.zero_le _, rfl, ⟨by simp [rgsV, rgsOfL], .inl ⟨rfl, rfl⟩⟩, World.grownBy.refl _ _⟩
  case round =>
    obtain ⟨j, hj, rfl, hown, hg⟩ := hrel
    have HL := Lib.hid (And.intro hown hg)
    clear hown hg
    have hlen : (s.drop (8 * j)).length = 8 * (K - j) := by rw [List.length_drop]; omega
    have HN := Lib.hid (rgsOf_next s j)
    have HT := Lib.hid (show (s.drop (8 * j)).drop 8 = s.drop (8 * (j + 1)) by rw [List.drop_drop]; congr 1)
    obtain ⟨x, hx⟩ : ∃ x, getBe ((s.drop (8 * j)).take 4) = x := ⟨_, rfl⟩
    obtain ⟨y, hy⟩ : ∃ y, getBe (((s.drop (8 * j)).drop 4).take 4) = y := ⟨_, rfl⟩
    have HP := Lib.hid (show rgAtL s j = (x, y) by unfold rgAtL; rw [hx, hy])
    have HX := Lib.hid (And.intro hx hy)
    clear hx hy
    generalize s.drop (8 * j) = t at *
    have hl1 : t.length ≤ 8000 := by omega
    have HLN := Lib.hid (And.intro hlen hs)
    by_cases hlt : j < K
    · have h8 : 8 ≤ t.length := by omega
      have h8i : (8 : Int) ≤ (t.length : Int) := by omega
      have h4i : (4 : Int) ≤ (t.length : Int) := by omega
      have h4 : 4 ≤ t.length := by omega
      have h0i : (0 : Int) < (t.length : Int) := by omega
      clear hlen hs
      go_wp2_with fail
      go_region_held3 (fun _ => True) (trivial)
        (first
        | (go_at_call 45; (with_reducible refine (get_a HX.out.1 _ (by omega)).mono ?_); rintro e w9 ⟨rfl, rfl⟩)
        | (go_at_call 45; (with_reducible refine (get_b HX.out.2 _ (by omega)).mono ?_); rintro e w9 ⟨rfl, rfl⟩)
        | (refine step_app (by rfl) _ _ _ (by rfl) w.heap.size 61 i0 _ 2 16 Try.underlying24 hi hz0 hz1 hz2 rfl (by decide) _ j (rgsV (rgsOfL s j)) (by rfl) (World.ownsRow.kept (World.ownsRow.kept HL.out.1 (grownBy_drew (r := none)) (Classical.em _)) (World.grownBy_alloc _ _ none) (Classical.em _)) ⟨wr.heap.size, 0, none⟩ 1 1 [.int .i64 x, .int .i64 y] (by rfl) (by rfl) (pair_at _ _ _ _) (by simp [Value.oneCell']) (by unfold maxLen; omega) (by omega) (by have := HL.out.2.size; simp; omega) ?_; intro v' wz hown1 hg1; have HZ := Lib.hid (And.intro hown1 hg1); clear hown1 hg1))
      all_goals
        go_wp2_with fail
        go_roundw
        case rel => exact ⟨j + 1, hlt, by rw [str_drop, HT.out], by rw [HN.out, HP.out, rgsV_snoc]; exact HZ.out.1, row_on HL.out.1 HL.out.2 HZ.out.2⟩
        case measure => (have hz : ({ data := t.toArray } : ByteArray).size = t.length := rfl); simp [strL]; rw [hz]; omega
    · obtain rfl : j = K := by omega
      have h0 : t.length = 0 := by omega
      have h0i : ¬ (0 : Int) < (t.length : Int) := by omega
      clear hlen hs
      go_wp2_with fail
      go_ret
      exact ⟨_, rfl, HL.out.1, HL.out.2⟩

end Go.Proofs.Ythfhffcimjolgaa
