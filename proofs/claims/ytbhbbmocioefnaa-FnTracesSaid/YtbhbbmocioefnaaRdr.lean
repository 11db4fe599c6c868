/- Contracts of the program's own reader of blocks: each step reads what is there, or gives up with a panic. -/
import Derived.Test.YtbhbbmocioefnaaBlk
import Derived.WalkLawsBesides
import Derived.Recover
import Derived.StillTailTactics
import Derived.Deep.RegionWith
import Derived.Lib.Strings
namespace Go.Proofs.Ytbhbbmocioefnaa
open Go.RowKit

/-- What the reader gives up with. -/
def PE : PanicEntry := { v := .iface 9 (.string ⟨#[110, 111, 116, 32, 114, 105, 103, 104, 116]⟩), recovered := false }

set_option maxRecDepth 100000 in
theorem require_ok (p : Value) (w : World) : Calls Try.prog 82 #[p, .bool true] w fun e w' => e = .returned (.tuple #[]) ∧ w = w' := by
  go_enter Try.func82, Try.ntmps82
  go_wp2
  go_end0
  exact ⟨rfl, rfl⟩

set_option maxRecDepth 100000 in
theorem require_panic (p : Value) (w : World) : Calls Try.prog 82 #[p, .bool false] w fun e w' => e = .panicked [PE] ∧ w = w' := by
  go_enter Try.func82, Try.ntmps82
  go_wp2
  exact ⟨rfl, rfl, rfl⟩

structure RS (w : World) (B : Nat) (t : List UInt8) (a : Nat) (big : Bool) : Prop where
  c0 : w.cell? ⟨B, 0, none⟩ = some (.string ⟨t.toArray⟩)
  c1 : w.cell? ⟨B, 1, none⟩ = some (.int .i64 (a : Nat))
  c2 : w.cell? ⟨B, 2, none⟩ = some (.bool big)
  fz : w.frozen? ⟨B, 1, none⟩ = false
  le : a ≤ t.length
  small : t.length ≤ 1000000000000

theorem RS.kept {w w' : World} {B : Nat} {t : List UInt8} {a : Nat} {big : Bool} (h : RS w B t a big) (hg : w.grownBy w' none) : RS w' B t a big :=
  ⟨hg.cell h.c0 (by simp), hg.cell h.c1 (by simp), hg.cell h.c2 (by simp), by rw [World.frozen?_of_block (hg.block B (World.block_lt_of_cell? w ⟨B, 1, none⟩ h.c1) (by simp))]; exact h.fz, h.le, h.small⟩

def BytesPost (w : World) (B : Nat) (t : List UInt8) (a n : Nat) (big : Bool) (e : Ending) (w' : World) : Prop :=
  e = .returned (.string ⟨((t.drop a).take n).toArray⟩) ∧ w.grownBy w' (some B) ∧ RS w' B t (a + n) big
def PanicPost (w : World) (B : Nat) (e : Ending) (w' : World) : Prop := e = .panicked [PE] ∧ w.grownBy w' (some B)

theorem extract_mid (t : List UInt8) (a b : Nat) (_h : a ≤ b) : (⟨t.toArray⟩ : ByteArray).extract a b = ⟨((t.drop a).take (b - a)).toArray⟩ := by
  refine ba_of ?_
  rw [Lib.extract_data]

set_option maxRecDepth 100000 in
theorem bytes_ok (B : Nat) (t : List UInt8) (a n : Nat) (big : Bool) (w : World) (h : RS w B t a big) (hn : a + n ≤ t.length) :
    Calls Try.prog 83 #[.pointer (some ⟨B, 0, none⟩), .int .i64 n] w (BytesPost w B t a n big) := by
  obtain ⟨h0, h1, h2, hf, hle, hs⟩ := h
  have hd : decide ((n : Int) ≤ (t.length : Int) - (a : Int)) = true := by simp; omega
  go_enter Try.func83, Try.ntmps83
  go_wp2_with fail
  go_quiet ((go_at_call 82; exact Calls.quiet_of_same ((require_ok _ _).mono fun _ _ ⟨he, hw⟩ => ⟨he, hw.symm⟩)))
  go_wp2_with fail
  have hi1 : (a : Int) + (n : Int) ≤ (t.length : Int) := by omega
  have hi2 : (a : Int) ≤ (a : Int) + (n : Int) := by omega
  have hw : IntKind.i64.wrap ((a : Int) + (n : Int)) = (a : Int) + (n : Int) := IntWalk.i64_in _ (by omega)
  have hw2 : 0 ≤ (a : Int) + (n : Int) := by omega
  have hw3 : ((a : Int) + (n : Int)).toNat = a + n := by omega
  go_quiet (fail)
  clear hw hw3
  go_wp2_with fail
  go_ret
  refine ⟨ret_ba ?_, ?_, ?_⟩
  · rw [extract_mid _ _ _ (by omega)]; congr 4; omega
  · exact grownBy_trans (grownBy_drewN _) (grownBy_set _ _ _ _)
  · exact ⟨by go_simp, by go_simp, by go_simp, by go_simp, hn, hs⟩

set_option maxRecDepth 100000 in
theorem bytes_panic (B : Nat) (t : List UInt8) (a n : Nat) (big : Bool) (w : World) (h : RS w B t a big) (hn : t.length < a + n) (_hn2 : n ≤ 1000000000000) :
    Calls Try.prog 83 #[.pointer (some ⟨B, 0, none⟩), .int .i64 n] w (PanicPost w B) := by
  obtain ⟨h0, h1, h2, hf, hle, hs⟩ := h
  have hd : decide ((n : Int) ≤ (t.length : Int) - (a : Int)) = false := by simp; omega
  go_enter Try.func83, Try.ntmps83
  go_wp2_with fail
  go_still_tail 13, (by kernel_rfl)
  change wpList _ _ _ _ _ w.drew
  have hG : w.grownBy w.drew (some B) := grownBy_drew
  have g0 : w.drew.cell? ⟨B, 0, none⟩ = some (.string ⟨t.toArray⟩) := h0
  have g1 : w.drew.cell? ⟨B, 1, none⟩ = some (.int .i64 (a : Nat)) := h1
  clear h0 h1 h2 hf
  generalize w.drew = w2 at *
  have HG := Lib.hid hG
  clear hG
  go_wp2_with fail
  rw [hd]
  refine (require_panic _ _).mono ?_
  rintro e w3 ⟨rfl, rfl⟩
  exact ⟨rfl, rfl, HG.out⟩

def numOf (l : List UInt8) (big : Bool) : Int := if big then getBe l else getBe l.reverse

set_option maxRecDepth 100000 in
theorem get_number (l : List UInt8) (big : Bool) (w : World) (hl : l.length ≤ 1000000) : Calls Try.prog 91 #[.string ⟨l.toArray⟩, .bool big] w fun e w' => e = .returned (.int .i64 (numOf l big)) ∧ w = w' := by
  have hm : (⟨l.toArray⟩ : ByteArray).size ≤ maxLen := le_max (by rw [str_size]; omega)
  have HM := Lib.hid hm
  clear hm
  cases big
  · go_enter Try.func91, Try.ntmps91
    go_wp2_with fail
    refine (get_le_impl _ _ HM.out).mono ?_
    rintro e w' ⟨rfl, rfl⟩
    go_wp2_with fail
    go_ret
    exact ⟨rfl, rfl⟩
  · go_enter Try.func91, Try.ntmps91
    go_wp2_with fail
    refine (get_impl _ _ HM.out).mono ?_
    rintro e w' ⟨rfl, rfl⟩
    go_wp2_with fail
    go_ret
    exact ⟨rfl, rfl⟩

def NumberPost (w : World) (B : Nat) (t : List UInt8) (a : Nat) (big : Bool) (e : Ending) (w' : World) : Prop :=
  e = .returned (.int .i64 (numOf ((t.drop a).take 4) big)) ∧ w.grownBy w' (some B) ∧ RS w' B t (a + 4) big

theorem RS.drew {w : World} {B : Nat} {t : List UInt8} {a : Nat} {big : Bool} (h : RS w B t a big) : RS w.drew B t a big := h.kept grownBy_drew

set_option maxRecDepth 100000 in
theorem number_ok (B : Nat) (t : List UInt8) (a : Nat) (big : Bool) (w : World) (h : RS w B t a big) (hn : a + 4 ≤ t.length) :
    Calls Try.prog 81 #[.pointer (some ⟨B, 0, none⟩)] w (NumberPost w B t a big) := by
  have h2 := h.c2
  have HR := Lib.hid h
  clear h
  go_enter Try.func81, Try.ntmps81
  go_wp2_with fail
  go_region_held3 (fun w' => w'.cell? ⟨B, 2, none⟩ = some (.bool big) ∧ w.grownBy w' (some B) ∧ (RS w' B t a big ∨ RS w' B t (a + 4) big)) ((refine ⟨by first | assumption | simp [*], by first | assumption | exact grownBy_drew, by first | assumption | exact .inl HR.out.drew⟩))
    (first | (go_at_call 83; refine (bytes_ok B t a 4 big _ HR.out.drew hn).mono ?_; rintro e w2 ⟨rfl, hg, hr⟩; have q0 := hr.c2; have q1 := grownBy_trans (grownBy_drew (r := some B)) hg; have q2 := Or.inr (a := RS w2 B t a big) hr) | (go_at_call 91; refine (get_number _ _ _ (by simp; omega)).mono ?_; rintro e w2 ⟨rfl, rfl⟩))
  go_wp2_with fail
  go_ret
  exact ⟨rfl, by assumption, by assumption⟩

set_option maxRecDepth 100000 in
set_option maxHeartbeats 4000000 in
theorem number_panic (B : Nat) (t : List UInt8) (a : Nat) (big : Bool) (w : World) (h : RS w B t a big) (hn : t.length < a + 4) :
    Calls Try.prog 81 #[.pointer (some ⟨B, 0, none⟩)] w (PanicPost w B) := by
  have h2 := h.c2
  have HR := Lib.hid h
  clear h
  go_enter Try.func81, Try.ntmps81
  go_wp2_with fail
  refine wp_region_held_drew (S := fun _ => True) (by kernel_rfl) trivial (fun _ => ?_)
  have q0 : w.drew.cell? ⟨B, 2, none⟩ = some (.bool big) := h2
  iterate 45
    all_goals first
      | exact AllReadyH.nil
      | (with_reducible refine AllReadyH.cons rfl (fun K' hK' => ?_) ?_)
      | (refine wpAnyH_ready (rs := [0, 2]) ?_ (List.cons_ne_nil _ _) ?_; · decide +kernel)
      | (refine wpAnyH_ready (rs := [1, 2]) ?_ (List.cons_ne_nil _ _) ?_; · decide +kernel)
      | (refine wpAnyH_ready (rs := [0, 3]) ?_ (List.cons_ne_nil _ _) ?_; · decide +kernel)
      | (refine wpAnyH_ready (rs := [1, 3]) ?_ (List.cons_ne_nil _ _) ?_; · decide +kernel)
      | (refine wpAnyH_ready (rs := [0, 4]) ?_ (List.cons_ne_nil _ _) ?_; · decide +kernel)
      | (refine wpAnyH_ready (rs := [1, 4]) ?_ (List.cons_ne_nil _ _) ?_; · decide +kernel)
      | (refine wpAnyH_ready (rs := [0, 5]) ?_ (List.cons_ne_nil _ _) ?_; · decide +kernel)
      | (refine wpAnyH_ready (rs := [1, 5]) ?_ (List.cons_ne_nil _ _) ?_; · decide +kernel)
      | (refine wpAnyH_ready (rs := [0]) ?_ (List.cons_ne_nil _ _) ?_; · decide +kernel)
      | (refine wpAnyH_ready (rs := [1]) ?_ (List.cons_ne_nil _ _) ?_; · decide +kernel)
      | (go_simp; go_at_call 83; refine (bytes_panic B t a 4 big _ HR.out.drew hn (by omega)).mono ?_; rintro e w2 ⟨rfl, hg⟩; exact ⟨rfl, rfl, grownBy_trans grownBy_drew hg⟩)
      | (go_simp; refine hK'.out _ _ trivial (fun _ => ?_); clear hK' K')

end Go.Proofs.Ytbhbbmocioefnaa
