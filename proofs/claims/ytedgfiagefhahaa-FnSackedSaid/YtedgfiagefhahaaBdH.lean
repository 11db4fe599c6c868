/- Boards: the laws' own helpers of drawn boards. -/
import Derived.Test.YtedgfiagefhahaaBdA
import Derived.Test.YtedgfiagefhahaaBxB
import Derived.Deep.QuietTactic
import Derived.BigQuiet
import Derived.LoopTactic
namespace Go.Proofs.Ytedgfiagefhahaa
open Go.RowKit

def SrRel (w : World) (n : Nat) (i : Value) (wr : World) : Prop := ∃ j : Nat, j ≤ n ∧ i = .int .i64 j ∧ w.grownBy wr none

set_option maxRecDepth 100000 in
set_option maxHeartbeats 1000000 in
theorem same_ranges (a b : Option Addr) (c d : Nat) (l : List Rg) (w : World) (h : RgAt w a l) (k : RgAt w b l) (hl : l.length ≤ 1048576) : Calls Try.prog 36 #[.slice a l.length c, .slice b l.length d] w fun e w' => e = .returned (.bool true) ∧ w.grownBy w' none := by
  have H := Lib.hid (And.intro h k)
  clear h k
  go_enter Try.func36, Try.ntmps36
  go_wp2_with fail
  go_loopw [5] (fun i wr => SrRel w l.length i wr) (fun i _ => l.length - (intOf i).toNat)
  case atStart => exact ⟨0, Nat.zero_le _, rfl, World.grownBy.refl _ _⟩
  case round =>
    obtain ⟨j, hj, rfl, hg⟩ := hrel
    have HS := Lib.hid hg
    clear hg
    by_cases hlt : j < l.length
    · rcases (H.out.1.kept HS.out) with h0 | ⟨b1, off1, rfl, hb1, hc⟩
      · rw [h0] at hlt
        simp at hlt
      · rcases (H.out.2.kept HS.out) with h0 | ⟨b2, off2, rfl, hb2, hd⟩
        · rw [h0] at hlt
          simp at hlt
        · obtain ⟨c0, c1⟩ := hc j hlt
          obtain ⟨d0, d1⟩ := hd j hlt
          clear hc hd
          generalize l[j] = x at *
          obtain ⟨t, m⟩ := x
          dsimp only at c0 c1 d0 d1
          have hlt' : (j : Int) < (l.length : Int) := by omega
          have hj0 : (0 : Int) ≤ (j : Int) := by omega
          go_wp2_with fail
          go_quiet (fail)
          go_wp2_with fail
          go_roundw
          case rel => exact ⟨j + 1, hlt, by go_num, gD HS.out _⟩
          case measure => simp [intOf]; omega
    · obtain rfl : j = l.length := by omega
      go_wp2_with fail
      go_ret
      exact ⟨rfl, HS.out⟩

set_option maxRecDepth 100000 in
set_option maxHeartbeats 1000000 in
theorem same_board (u n : Int) (a b : Option Addr) (c d : Nat) (l : List Rg) (w : World) (h : RgAt w a l) (k : RgAt w b l) (hl : l.length ≤ 1048576) : Calls Try.prog 16 #[bdV u n a l.length c, bdV u n b l.length d] w fun e w' => e = .returned (.bool true) ∧ w.grownBy w' none := by
  have hA := grownBy_trans (World.grownBy_alloc w (.cells #[.int .i64 u, .int .i64 n, .slice a l.length c] 26) none) (World.grownBy_alloc _ (.cells #[.int .i64 u, .int .i64 n, .slice b l.length d] 26) none)
  have H := Lib.hid (And.intro (h.kept hA) (And.intro (k.kept hA) hA))
  clear h k hA
  go_enter Try.func16, Try.ntmps16
  go_wp2_with fail
  refine (same_ranges _ _ _ _ _ _ H.out.1 H.out.2.1 hl).mono ?_
  rintro e w4 ⟨rfl, hg⟩
  have HG := Lib.hid (grownBy_trans H.out.2.2 hg)
  clear hg
  go_wp2_with fail
  go_ret
  exact ⟨rfl, HG.out⟩

theorem inL_next (l : List Rg) (p : Int) (j : Nat) (h : j < l.length) (h0 : inL (l.take j) p = false) : inL (l.take (j + 1)) p = decide ((l[j]).1 ≤ p ∧ p < (l[j]).2) := by
  unfold inL at h0 ⊢
  rw [List.take_succ_eq_append_getElem h, List.any_append, h0]
  simp
def SaRel (w : World) (l : List Rg) (p : Int) (i : Value) (wr : World) : Prop := ∃ j : Nat, j ≤ l.length ∧ i = .int .i64 j ∧ w.grownBy wr none ∧ inL (l.take j) p = false

set_option maxRecDepth 100000 in
set_option maxHeartbeats 1000000 in
theorem sacked_any (u n : Int) (a : Option Addr) (c : Nat) (l : List Rg) (p : Int) (w : World) (h : RgAt w a l) (hl : l.length ≤ 1048576) : Calls Try.prog 20 #[bdV u n a l.length c, .int .i64 p] w fun e w' => e = .returned (.bool (inL l p)) ∧ w.grownBy w' none := by
  obtain ⟨W1, hW⟩ : ∃ W1, W1 = w.alloc (.cells #[.int .i64 u, .int .i64 n, .slice a l.length c] 26) := ⟨_, rfl⟩
  have hA : w.grownBy W1 none := by rw [hW]; exact World.grownBy_alloc _ _ _
  have hb : Bx W1 w.heap.size 26 #[.int .i64 u, .int .i64 n, .slice a l.length c] := by rw [hW]; exact Bx.new _ _ _
  have H := Lib.hid (And.intro (h.kept hA) (And.intro hA (And.intro hb hW)))
  clear h hA hW hb
  go_enter Try.func20, Try.ntmps20
  go_wp2_with fail
  rw [← H.out.2.2.2]
  go_loopw [5] (fun i wr => SaRel W1 l p i wr) (fun i _ => l.length - (intOf i).toNat)
  case atStart => exact ⟨0, Nat.zero_le _, rfl, World.grownBy.refl _ _, rfl⟩
  case round =>
    obtain ⟨j, hj, rfl, hg, hin⟩ := hrel
    have hbx := H.out.2.2.1.keep hg
    have b2 := hbx.c 2 (x := .slice a l.length c) rfl
    have HS := Lib.hid (And.intro hg hin)
    clear hg hin hbx
    by_cases hlt : j < l.length
    · rcases (H.out.1.kept HS.out.1) with h0 | ⟨b1, off1, rfl, hb1, hc⟩
      · rw [h0] at hlt
        simp at hlt
      · obtain ⟨c0, c1⟩ := hc j hlt
        clear hc
        have HN := Lib.hid (inL_next l p j hlt HS.out.2)
        have HM := Lib.hid (fun (h : (l[j]).1 ≤ p ∧ p < (l[j]).2) => inL_iff.2 ⟨_, List.getElem_mem hlt, h⟩)
        generalize l[j] = x at *
        obtain ⟨f, t⟩ := x
        dsimp only at c0 c1
        have hlt' : (j : Int) < (l.length : Int) := by omega
        have hj0 : (0 : Int) ≤ (j : Int) := by omega
        by_cases g1 : f ≤ p
        · by_cases g2 : p < t
          · go_wp2_with fail
            go_ret
            exact ⟨ret_b (HM.out ⟨g1, g2⟩).symm, grownBy_trans H.out.2.1 HS.out.1⟩
          · have HQ := Lib.hid (show inL (l.take (j + 1)) p = false by rw [HN.out]; exact decide_eq_false (fun h => g2 h.2))
            go_wp2_with fail
            go_roundw
            case rel => exact ⟨j + 1, hlt, by go_num, HS.out.1, HQ.out⟩
            case measure => simp [intOf]; omega
        · have HQ := Lib.hid (show inL (l.take (j + 1)) p = false by rw [HN.out]; exact decide_eq_false (fun h => g1 h.1))
          go_wp2_with fail
          go_roundw
          case rel => exact ⟨j + 1, hlt, by go_num, HS.out.1, HQ.out⟩
          case measure => simp [intOf]; omega
    · obtain rfl : j = l.length := by omega
      have HQ := Lib.hid (show inL l p = false by have h := HS.out.2; rw [List.take_length] at h; exact h)
      go_wp2_with fail
      go_ret
      exact ⟨ret_b HQ.out.symm, grownBy_trans H.out.2.1 HS.out.1⟩

end Go.Proofs.Ytedgfiagefhahaa
