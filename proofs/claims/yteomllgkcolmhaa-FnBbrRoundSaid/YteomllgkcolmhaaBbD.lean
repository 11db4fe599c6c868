/- States of pipes: whether two are the same (as the laws ask), the drawing of a new one. -/
import Derived.Test.YteomllgkcolmhaaBbL
import Derived.Test.YteomllgkcolmhaaOffW
namespace Go.Proofs.Yteomllgkcolmhaa
open Go.RowKit

theorem bn_form (q : Int) : ∃ P R B, bnV q = .tuple #[bbV P none 0 0 R 0 0 0, .bool B] ∧ (B = true → P = 1 ∧ R = q ∧ 1 ≤ q ∧ q ≤ 60000) := by
  cases h : inB q 1 60000
  · exact ⟨0, 0, false, by rw [bnV, h]; rfl, by simp⟩
  · exact ⟨1, q, true, by rw [bnV, h]; rfl, fun _ => ⟨rfl, rfl, in_of h⟩⟩
theorem bn_as {w w' : World} {q : Int} {e : Ending} {v : Value} (hv : bnV q = v) (h : BnPost w q e w') : e = .returned v ∧ w.grownBy w' none := by rw [← hv]; exact h

def SsRel (w : World) (n : Nat) (i : Value) (wr : World) : Prop := ∃ j : Nat, j ≤ n ∧ i = .int .i64 j ∧ w.grownBy wr none

set_option maxRecDepth 100000 in
set_option maxHeartbeats 1000000 in
theorem same_samples (a b : Option Addr) (c d : Nat) (l : List Rg) (w : World) (h : RgAt w a l) (k : RgAt w b l) (hl : l.length ≤ 1048576) : Calls Try.prog 31 #[.slice a l.length c, .slice b l.length d] w fun e w' => e = .returned (.bool true) ∧ w.grownBy w' none := by
  have H := Lib.hid (And.intro h k)
  clear h k
  go_enter Try.func31, Try.ntmps31
  go_wp2_with fail
  go_loopw [5] (fun i wr => SsRel w l.length i wr) (fun i _ => l.length - (intOf i).toNat)
  case atStart => exact ⟨0, Nat.zero_le _, rfl, World.grownBy.refl _ _⟩
  case round =>
    obtain ⟨j, hj, rfl, hg⟩ := hrel
    have HS := Lib.hid hg
    clear hg
    by_cases hlt : j < l.length
    · rcases (H.out.1.kept HS.out) with h0 | ⟨b1, off1, rfl, hb1, hc⟩
      · rw [h0] at hlt
        simp at hlt
      · rcases (H.out.2.kept HS.out) with h0 | ⟨b2, off2, rfl, hb2, hd⟩
        · rw [h0] at hlt
          simp at hlt
        · obtain ⟨c0, c1⟩ := hc j hlt
          obtain ⟨d0, d1⟩ := hd j hlt
          clear hc hd
          generalize l[j] = x at *
          obtain ⟨t, m⟩ := x
          have hlt' : (j : Int) < (l.length : Int) := by omega
          have hj0 : (0 : Int) ≤ (j : Int) := by omega
          dsimp only at c0 c1 d0 d1
          go_wp2_with fail
          go_quiet (fail)
          go_wp2_with fail
          go_roundw
          case rel => exact ⟨j + 1, hlt, by go_num, grownBy_trans HS.out (grownBy_drewN _)⟩
          case measure => simp [intOf]; omega
    · obtain rfl : j = l.length := by omega
      go_wp2_with fail
      go_ret
      exact ⟨rfl, HS.out⟩

set_option maxRecDepth 100000 in
set_option maxHeartbeats 1000000 in
theorem same_bbr (p : Int) (a d : Option Addr) (c g : Nat) (l : List Rg) (r f s t : Int) (w : World) (h : RgAt w a l) (h' : RgAt w d l) (hl : l.length ≤ 1048576) : Calls Try.prog 11 #[bbV p a l.length c r f s t, bbV p d l.length g r f s t] w fun e w' => e = .returned (.bool true) ∧ w.grownBy w' none := by
  have hA := Bx.new w 26 (bbC p a l.length c r f s t)
  have gA1 := World.grownBy_alloc w (.cells (bbC p a l.length c r f s t) 26) none
  have gB1 := World.grownBy_alloc (w.alloc (.cells (bbC p a l.length c r f s t) 26)) (.cells (bbC p d l.length g r f s t) 26) none
  have hB := Bx.new (w.alloc (.cells (bbC p a l.length c r f s t) 26)) 26 (bbC p d l.length g r f s t)
  rw [World.size_alloc] at hB
  have H := Lib.hid (And.intro (h.kept (grownBy_trans gA1 gB1)) (And.intro (h'.kept (grownBy_trans gA1 gB1)) (And.intro (grownBy_trans gA1 gB1) (And.intro (hA.keep gB1) hB))))
  clear h h' hA gA1 gB1 hB
  go_enter Try.func11, Try.ntmps11
  go_wp2_with fail
  refine (same_samples _ _ _ _ _ _ H.out.1 H.out.2.1 hl).mono ?_
  rintro e w4 ⟨rfl, hg⟩
  have HG := Lib.hid (And.intro (grownBy_trans H.out.2.2.1 hg) (And.intro (H.out.2.2.2.1.keep hg) (H.out.2.2.2.2.keep hg)))
  clear hg
  have a0 := (HG.out.2.1).c 0 rfl
  have a1 := (HG.out.2.1).c 1 rfl
  have a2 := (HG.out.2.1).c 2 rfl
  have a3 := (HG.out.2.1).c 3 rfl
  have a4 := (HG.out.2.1).c 4 rfl
  have a5 := (HG.out.2.1).c 5 rfl
  have b0 := (HG.out.2.2).c 0 rfl
  have b1 := (HG.out.2.2).c 1 rfl
  have b2 := (HG.out.2.2).c 2 rfl
  have b3 := (HG.out.2.2).c 3 rfl
  have b4 := (HG.out.2.2).c 4 rfl
  have b5 := (HG.out.2.2).c 5 rfl
  go_wp2_with fail
  go_ret
  exact ⟨rfl, HG.out.1⟩

def NumPost0 (w : World) (e : Ending) (w' : World) : Prop := ∃ v : Int, e = .returned (.int .i64 v) ∧ w.grownBy w' none

end Go.Proofs.Yteomllgkcolmhaa
