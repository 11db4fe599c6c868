/- What is read of a frame, as a function of lists. -/
import Derived.Test.YtihaamgimakcoaaFrmB
namespace Go.Proofs.Ytihaamgimakcoaa
open Go.RowKit

theorem getBe2 (l : List UInt8) (h : l.length = 2) : 0 ≤ getBe l ∧ getBe l < 65536 ∧ putL (getBe l) 2 = l := by
  have e := getBe_in l (by omega)
  have h0 := getN_nonneg l l.length
  have h1 := getN_lt l l.length
  rw [h] at h0 h1 e
  simp at h1
  have hp := put_get l (by rw [e]; exact h0)
  rw [h] at hp
  exact ⟨by rw [e]; exact h0, by rw [e]; exact h1, hp⟩

def tagL (l : List UInt8) : Bool := decide (14 ≤ l.length ∧ getBe ((l.drop 12).take 2) = 33024)
theorem mid_len (l : List UInt8) (a n : Nat) (h : a + n ≤ l.length) : ((l.drop a).take n).length = n := by simp; omega
theorem tag_bytes (l : List UInt8) (h : 14 ≤ l.length) : (l.drop 12).take 2 = putL 33024 2 ↔ getBe ((l.drop 12).take 2) = 33024 := by
  have e := getBe2 ((l.drop 12).take 2) (mid_len l 12 2 (by omega))
  constructor
  · intro h1
    rw [h1]
    exact get_put 33024 2 ⟨by omega, by omega, by omega, by simp⟩
  · intro h1
    have e2 := e.2.2
    rw [h1] at e2
    exact e2.symm

structure Frm where
  t : List UInt8
  f : List UInt8
  v : Int
  k : Int
  b : List UInt8
abbrev Frm.val (x : Frm) : Value := frameV x.t x.f x.v x.k x.b
def Frm.ok (x : Frm) : Prop := frameOk x.t x.f x.v x.k x.b
instance (x : Frm) : Decidable x.ok := by unfold Frm.ok; infer_instance
def Frm.bytes (x : Frm) : List UInt8 := frameL x.t x.f x.v x.k x.b
def zeroF : Frm := ⟨[], [], 0, 0, []⟩
def frmAt (l : List UInt8) : Frm := if tagL l then ⟨l.take 6, (l.drop 6).take 6, getBe ((l.drop 14).take 2), getBe ((l.drop 16).take 2), l.drop 18⟩ else ⟨l.take 6, (l.drop 6).take 6, -1, getBe ((l.drop 12).take 2), l.drop 14⟩
def readOk (l : List UInt8) : Prop := (if tagL l then 18 else 14) ≤ l.length ∧ (frmAt l).ok
instance (l : List UInt8) : Decidable (readOk l) := by unfold readOk; infer_instance
def frmOut (l : List UInt8) : Frm := if readOk l then frmAt l else zeroF
def FrmPost (w : World) (l : List UInt8) (e : Ending) (w' : World) : Prop := e = .returned (.tuple #[(frmOut l).val, .bool (decide (readOk l))]) ∧ w.grownBy w' none

theorem post_frm {w w' : World} {l : List UInt8} (h : readOk l) (hg : w.grownBy w' none) : FrmPost w l (.returned (.tuple #[(frmAt l).val, .bool true])) w' := ⟨by rw [frmOut, if_pos h, decide_eq_true h], hg⟩
theorem post_zero {w w' : World} {l : List UInt8} (h : ¬ readOk l) (hg : w.grownBy w' none) : FrmPost w l (.returned (.tuple #[zeroF.val, .bool false])) w' := ⟨by rw [frmOut, if_neg h, decide_eq_false h], hg⟩

theorem split14 (l : List UInt8) : l = l.take 6 ++ (l.drop 6).take 6 ++ (l.drop 12).take 2 ++ l.drop 14 := by
  have e1 : l.take 6 ++ (l.drop 6).take 6 = l.take 12 := by
    have := (List.take_add (l := l) (i := 6) (j := 6)).symm
    simpa using this
  have e2 : l.take 12 ++ (l.drop 12).take 2 = l.take 14 := by
    have := (List.take_add (l := l) (i := 12) (j := 2)).symm
    simpa using this
  rw [e1, e2, List.take_append_drop]
theorem split18 (l : List UInt8) : l.drop 14 = (l.drop 14).take 2 ++ (l.drop 16).take 2 ++ l.drop 18 := by
  have e : (l.drop 14).drop 2 = l.drop 16 := by rw [List.drop_drop]
  have e3 : (l.drop 16).drop 2 = l.drop 18 := by rw [List.drop_drop]
  rw [← e3, List.append_assoc, List.take_append_drop, ← e, List.take_append_drop]

theorem frameT_plain (t f : List UInt8) (k : Int) (b : List UInt8) : frameT t f (-1) k b = t ++ f ++ putL k 2 ++ b := by
  have : tagOf (-1) = false := rfl
  simp [frameT, frameH, this, frmOl]
theorem frameT_tag (t f : List UInt8) (v k : Int) (b : List UInt8) (h : v ≠ -1) : frameT t f v k b = t ++ f ++ putL 33024 2 ++ putL v 2 ++ putL k 2 ++ b := by
  have : tagOf v = true := by simpa [tagOf] using h
  simp [frameT, frameH, this, frmOl]

theorem plain_iff (l : List UInt8) (h : 14 ≤ l.length) (ht : tagL l = false) : frameL (l.take 6) ((l.drop 6).take 6) (-1) (getBe ((l.drop 12).take 2)) (l.drop 14) = l ↔ readOk l := by
  have e := getBe2 ((l.drop 12).take 2) (mid_len l 12 2 (by omega))
  have hr : readOk l ↔ frameOk (l.take 6) ((l.drop 6).take 6) (-1) (getBe ((l.drop 12).take 2)) (l.drop 14) := by
    unfold readOk frmAt Frm.ok
    rw [ht]
    simp [h]
  rw [hr]
  unfold frameL
  split
  · rename_i h1
    refine ⟨fun _ => h1, fun _ => ?_⟩
    rw [frameT_plain, e.2.2]
    exact (split14 l).symm
  · rename_i h1
    refine ⟨fun h2 => ?_, fun h2 => absurd h2 h1⟩
    rw [← h2] at h
    simp at h
theorem tag_iff (l : List UInt8) (h : 18 ≤ l.length) (ht : tagL l = true) : frameL (l.take 6) ((l.drop 6).take 6) (getBe ((l.drop 14).take 2) % 4096) (getBe ((l.drop 16).take 2)) (l.drop 18) = l ↔ readOk l := by
  have e := getBe2 ((l.drop 14).take 2) (mid_len l 14 2 (by omega))
  have e3 := getBe2 ((l.drop 16).take 2) (mid_len l 16 2 (by omega))
  have hr : readOk l ↔ frameOk (l.take 6) ((l.drop 6).take 6) (getBe ((l.drop 14).take 2)) (getBe ((l.drop 16).take 2)) (l.drop 18) := by
    unfold readOk frmAt Frm.ok
    rw [ht]
    simp [h]
  have h12 : (l.drop 12).take 2 = putL 33024 2 := (tag_bytes l (by omega)).2 (by simpa [tagL] using (of_decide_eq_true ht).2)
  rw [hr]
  by_cases h4 : getBe ((l.drop 14).take 2) < 4096
  · rw [Int.emod_eq_of_lt e.1 h4]
    unfold frameL
    split
    · rename_i h1
      refine ⟨fun _ => h1, fun _ => ?_⟩
      rw [frameT_tag _ _ _ _ _ (by omega), e.2.2, e3.2.2, ← h12]
      have s1 := split14 l
      rw [split18 l] at s1
      simpa using s1.symm
    · rename_i h1
      refine ⟨fun h2 => ?_, fun h2 => absurd h2 h1⟩
      rw [← h2] at h
      simp at h
  · refine ⟨fun h2 => ?_, fun h2 => absurd h2.2.2.2.1 (by omega)⟩
    exfalso
    unfold frameL at h2
    split at h2
    · rw [frameT_tag _ _ _ _ _ (by omega)] at h2
      have s1 := split14 l
      rw [split18 l, h12] at s1
      have h3 := h2.trans s1
      simp only [List.append_assoc] at h3
      have h4' := List.append_cancel_left (List.append_cancel_left (List.append_cancel_left h3))
      have hp : (putL (getBe ((l.drop 14).take 2) % 4096) 2).length = ((l.drop 14).take 2).length := by
        rw [putL_ok ⟨by omega, by omega, by omega, by simp; omega⟩, beL_length, mid_len l 14 2 (by omega)]; rfl
      have h5 := (List.append_inj h4' hp).1
      have h6 := congrArg getBe h5
      rw [get_put _ 2 ⟨by omega, by omega, by omega, by simp; omega⟩] at h6
      omega
    · rw [← h2] at h
      simp at h

end Go.Proofs.Ytihaamgimakcoaa
