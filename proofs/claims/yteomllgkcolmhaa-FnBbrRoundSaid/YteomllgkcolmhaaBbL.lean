/- The laws' own helpers of states of pipes: their size, a copy, whether two are the same, their marks. -/
import Derived.Test.YteomllgkcolmhaaBbW
namespace Go.Proofs.Yteomllgkcolmhaa
open Go.RowKit

def ToBbPost (w : World) (p : Int) (l : List Rg) (r f s t : Int) (e : Ending) (w' : World) : Prop :=
  ∃ q : Nat, e = .returned (bbV p (some ⟨q, 0, none⟩) l.length l.length r f s t) ∧ w.grownBy w' none ∧ OwnRg w' w.heap.size (some ⟨q, 0, none⟩) l.length l
theorem own_setq {w : World} {B q D o c : Nat} {v : Value} {l : List Rg} (h : OwnRg w B (some ⟨q, 0, none⟩) c l) (hne : D ≠ q) : OwnRg (w.setCell ⟨D, o, none⟩ v) B (some ⟨q, 0, none⟩) c l :=
  h.kept (grownBy_set w D o v) (.inr (by simp [Value.ownBlock]; omega))

def bnV (q : Int) : Value := if inB q 1 60000 = true then .tuple #[bbV 1 none 0 0 q 0 0 0, .bool true] else .tuple #[bbV 0 none 0 0 0 0 0 0, .bool false]
def BnPost (w : World) (q : Int) (e : Ending) (w' : World) : Prop := e = .returned (bnV q) ∧ w.grownBy w' none

set_option maxRecDepth 100000 in
set_option maxHeartbeats 1000000 in
theorem bn_spec (q : Int) (w : World) : Calls Try.prog 36 #[.int .i64 q] w (BnPost w q) := by
  cases h : inB q 1 60000
  · have H := Lib.hid h
    clear h
    go_enter Try.func36, Try.ntmps36
    go_wp2_with (go_at_call 28; refine (in_any _ _ _ _).mono ?_; rintro e w' ⟨rfl, rfl⟩; rw [H.out])
    refine bodyPost_ret (v := .tuple #[bbV 0 none 0 0 0 0 0 0, .bool false]) ?_ rfl ⟨by rw [bnV, H.out]; rfl, ?_⟩
    · simp [results, Try.results36, go_sem]
    · repeat (first | with_reducible exact World.grownBy_alloc _ _ _ | with_reducible refine gS ?_ (by simp) _ _)
  · have H := Lib.hid h
    clear h
    go_enter Try.func36, Try.ntmps36
    go_wp2_with (go_at_call 28; refine (in_any _ _ _ _).mono ?_; rintro e w' ⟨rfl, rfl⟩; rw [H.out])
    refine bodyPost_ret (v := .tuple #[bbV 1 none 0 0 q 0 0 0, .bool true]) ?_ rfl ⟨by rw [bnV, H.out]; rfl, ?_⟩
    · simp [results, Try.results36, go_sem]
    · repeat (first | with_reducible exact World.grownBy_alloc _ _ _ | with_reducible refine gS ?_ (by simp) _ _)

end Go.Proofs.Yteomllgkcolmhaa
