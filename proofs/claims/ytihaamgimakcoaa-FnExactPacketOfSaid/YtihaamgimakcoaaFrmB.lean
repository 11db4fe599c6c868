/- A frame's bytes: the program's own writing and the model's, over every frame. -/
import Derived.Test.YtihaamgimakcoaaFrmP
import Derived.Deep.RegionHeld3
namespace Go.Proofs.Ytihaamgimakcoaa
open Go.RowKit

def tagOf (v : Int) : Bool := decide (v ≠ -1)
def frmOl (t f : List UInt8) (v k : Int) (tagged : Bool) : List (List UInt8) := [t, f] ++ (if tagged then [putL 33024 2, putL v 2] else []) ++ [putL k 2]
def frameH (t f : List UInt8) (v k : Int) : List UInt8 := (frmOl t f v k (tagOf v)).flatten
def frameT (t f : List UInt8) (v k : Int) (b : List UInt8) : List UInt8 := frameH t f v k ++ b
def frameL (t f : List UInt8) (v k : Int) (b : List UInt8) : List UInt8 := if frameOk t f v k b then frameT t f v k b else []

theorem frm_out (B : Nat) (t f : List UInt8) (v k : Int) (tagged : Bool) (w : World) (h0 : w.cell? ⟨B, 0, none⟩ = some (.string ⟨t.toArray⟩)) (h1 : w.cell? ⟨B, 1, none⟩ = some (.string ⟨f.toArray⟩)) (h2 : w.cell? ⟨B, 2, none⟩ = some (.int .i64 v)) (h3 : w.cell? ⟨B, 3, none⟩ = some (.int .i64 k)) :
    ∀ i (h : i < (frmParts B tagged).length) (h' : i < (frmOl t f v k tagged).length), (frmParts B tagged)[i].out w (frmOl t f v k tagged)[i] := by
  cases tagged
  · intro i h h'
    have hi : i = 0 ∨ i = 1 ∨ i = 2 := by simp [frmParts] at h; omega
    rcases hi with rfl | rfl | rfl
    · exact h0
    · exact h1
    · exact ⟨k, h3, rfl⟩
  · intro i h h'
    have hi : i = 0 ∨ i = 1 ∨ i = 2 ∨ i = 3 ∨ i = 4 := by simp [frmParts] at h; omega
    rcases hi with rfl | rfl | rfl | rfl | rfl
    · exact h0
    · exact h1
    · exact rfl
    · exact ⟨v, h2, rfl⟩
    · exact ⟨k, h3, rfl⟩
theorem frm_lens (B : Nat) (t f : List UInt8) (v k : Int) (tagged : Bool) (ht : t.length = 6) (hf : f.length = 6) : (frmOl t f v k tagged).length = (frmParts B tagged).length ∧ (frmParts B tagged).length ≤ 100 ∧ ∀ l ∈ frmOl t f v k tagged, l.length ≤ 1000 := by
  have a := len_le 33024 2
  have b := len_le v 2
  have c := len_le k 2
  cases tagged <;> refine ⟨rfl, by simp [frmParts], ?_⟩ <;> simp [frmOl] <;> omega
theorem frameH_len (t f : List UInt8) (v k : Int) (ht : t.length = 6) (hf : f.length = 6) : (frameH t f v k).length ≤ 30 := by
  have a := len_le 33024 2
  have b := len_le v 2
  have c := len_le k 2
  unfold frameH
  cases tagOf v <;> simp [frmOl] <;> omega

set_option maxRecDepth 100000 in
set_option maxHeartbeats 2000000 in
theorem frame_impl (t f : List UInt8) (v k : Int) (b : List UInt8) (w : World) : Calls Try.prog 35 #[frameV t f v k b] w (StrPost w (frameL t f v k b)) := by
  by_cases hok : frameOk t f v k b
  · have HE := Lib.hid (And.intro hok (show frameL t f v k b = frameT t f v k b from if_pos hok))
    have HD := Lib.hid (decide_eq_true hok)
    clear hok
    cases htg : tagOf v
    · have hv' : (v != -1) = false := by simpa [tagOf] using htg
      have HT := Lib.hid htg
      clear htg
      have hlt := Lib.hid (frm_lens w.heap.size t f v k false HE.out.1.1 HE.out.1.2.1)
      have hfl := frameH_len t f v k HE.out.1.1 HE.out.1.2.1
      have HL := Lib.hid (show (frmOl t f v k false).flatten = frameH t f v k by rw [frameH, HT.out])
      have hbl : b.length ≤ 382 := HE.out.1.2.2.2.2.2.2.2
      have hkl : ¬ 9223372036854775807 < (frameH t f v k).length + b.length := by omega
      go_enter Try.func35, Try.ntmps35
      go_wp2_with fail
      refine (frame_ok_impl _ _ _ _ _ _).mono ?_
      rintro e w1 ⟨rfl, hg⟩
      rw [HD.out]
      have hc0 := hg.cell (a := ⟨w.heap.size, 0, none⟩) (v := .string ⟨t.toArray⟩) (by go_simp) (by simp)
      have hc1 := hg.cell (a := ⟨w.heap.size, 1, none⟩) (v := .string ⟨f.toArray⟩) (by go_simp) (by simp)
      have hc2 := hg.cell (a := ⟨w.heap.size, 2, none⟩) (v := .int .i64 v) (by go_simp) (by simp)
      have hc3 := hg.cell (a := ⟨w.heap.size, 3, none⟩) (v := .int .i64 k) (by go_simp) (by simp)
      have hc4 := hg.cell (a := ⟨w.heap.size, 4, none⟩) (v := .string ⟨b.toArray⟩) (by go_simp) (by simp)
      have HG := Lib.hid (grownBy_trans (World.grownBy_alloc _ _ _) hg)
      clear hg
      go_wp2_with fail
      go_region_held3 (fun w' => w'.cell? ⟨w.heap.size, 0, none⟩ = some (.string ⟨t.toArray⟩) ∧ w'.cell? ⟨w.heap.size, 1, none⟩ = some (.string ⟨f.toArray⟩) ∧ w'.cell? ⟨w.heap.size, 2, none⟩ = some (.int .i64 v) ∧ w'.cell? ⟨w.heap.size, 3, none⟩ = some (.int .i64 k) ∧ w'.cell? ⟨w.heap.size, 4, none⟩ = some (.string ⟨b.toArray⟩) ∧ w1.grownBy w' none) ((refine ⟨by first | assumption | (simp [*]; done), by first | assumption | (simp [*]; done), by first | assumption | (simp [*]; done), by first | assumption | (simp [*]; done), by first | assumption | (simp [*]; done), by first | assumption | exact grownBy_drew | exact grownBy_trans (by assumption) (by assumption)⟩))
        (first
          | (go_at_call 69; refine (frm_parts0 _ _).mono ?_; rintro e w2 ⟨pb, pc, rfl, hpb, hg, hpc⟩; have q0 := hg.cell (a := ⟨w.heap.size, 0, none⟩) (v := .string ⟨t.toArray⟩) (by assumption) (by simp); have q1 := hg.cell (a := ⟨w.heap.size, 1, none⟩) (v := .string ⟨f.toArray⟩) (by assumption) (by simp); have q2 := hg.cell (a := ⟨w.heap.size, 2, none⟩) (v := .int .i64 v) (by assumption) (by simp); have q3 := hg.cell (a := ⟨w.heap.size, 3, none⟩) (v := .int .i64 k) (by assumption) (by simp); have q4 := hg.cell (a := ⟨w.heap.size, 4, none⟩) (v := .string ⟨b.toArray⟩) (by assumption) (by simp); have q5 := grownBy_trans grownBy_drew hg; have HPC := Lib.hid hpc; clear hpc)
          | (go_at_call 62; refine (put_as (frameH t f v k) _ _ (frmParts w.heap.size false) (frmOl t f v k false) _ HL.out hlt.out.1 hlt.out.2.1 hlt.out.2.2 HPC.out (frm_out _ _ _ _ _ _ _ (by assumption) (by assumption) (by assumption) (by assumption))).mono ?_; rintro e w3 ⟨rfl, hg⟩; have q0 := hg.cell (a := ⟨w.heap.size, 0, none⟩) (v := .string ⟨t.toArray⟩) (by assumption) (by simp); have q1 := hg.cell (a := ⟨w.heap.size, 1, none⟩) (v := .string ⟨f.toArray⟩) (by assumption) (by simp); have q2 := hg.cell (a := ⟨w.heap.size, 2, none⟩) (v := .int .i64 v) (by assumption) (by simp); have q3 := hg.cell (a := ⟨w.heap.size, 3, none⟩) (v := .int .i64 k) (by assumption) (by simp); have q4 := hg.cell (a := ⟨w.heap.size, 4, none⟩) (v := .string ⟨b.toArray⟩) (by assumption) (by simp); have q6 := grownBy_trans q5 hg))
      go_wp2_with fail
      go_ret
      refine ⟨ret_ba ?_, ?_⟩
      · rw [HE.out.2, frameT, ba_append]
      · first
          | exact grownBy_trans HG.out (by assumption)
          | (rename_i hH _; exact grownBy_trans HG.out hH.2.2.2.2.2)
          | (rename_i hH; exact grownBy_trans HG.out hH.2.2.2.2.2)
    · have hv' : (v != -1) = true := by simpa [tagOf] using htg
      have HT := Lib.hid htg
      clear htg
      have hlt := Lib.hid (frm_lens w.heap.size t f v k true HE.out.1.1 HE.out.1.2.1)
      have hfl := frameH_len t f v k HE.out.1.1 HE.out.1.2.1
      have HL := Lib.hid (show (frmOl t f v k true).flatten = frameH t f v k by rw [frameH, HT.out])
      have hbl : b.length ≤ 382 := HE.out.1.2.2.2.2.2.2.2
      have hkl : ¬ 9223372036854775807 < (frameH t f v k).length + b.length := by omega
      go_enter Try.func35, Try.ntmps35
      go_wp2_with fail
      refine (frame_ok_impl _ _ _ _ _ _).mono ?_
      rintro e w1 ⟨rfl, hg⟩
      rw [HD.out]
      have hc0 := hg.cell (a := ⟨w.heap.size, 0, none⟩) (v := .string ⟨t.toArray⟩) (by go_simp) (by simp)
      have hc1 := hg.cell (a := ⟨w.heap.size, 1, none⟩) (v := .string ⟨f.toArray⟩) (by go_simp) (by simp)
      have hc2 := hg.cell (a := ⟨w.heap.size, 2, none⟩) (v := .int .i64 v) (by go_simp) (by simp)
      have hc3 := hg.cell (a := ⟨w.heap.size, 3, none⟩) (v := .int .i64 k) (by go_simp) (by simp)
      have hc4 := hg.cell (a := ⟨w.heap.size, 4, none⟩) (v := .string ⟨b.toArray⟩) (by go_simp) (by simp)
      have HG := Lib.hid (grownBy_trans (World.grownBy_alloc _ _ _) hg)
      clear hg
      go_wp2_with fail
      go_region_held3 (fun w' => w'.cell? ⟨w.heap.size, 0, none⟩ = some (.string ⟨t.toArray⟩) ∧ w'.cell? ⟨w.heap.size, 1, none⟩ = some (.string ⟨f.toArray⟩) ∧ w'.cell? ⟨w.heap.size, 2, none⟩ = some (.int .i64 v) ∧ w'.cell? ⟨w.heap.size, 3, none⟩ = some (.int .i64 k) ∧ w'.cell? ⟨w.heap.size, 4, none⟩ = some (.string ⟨b.toArray⟩) ∧ w1.grownBy w' none) ((refine ⟨by first | assumption | (simp [*]; done), by first | assumption | (simp [*]; done), by first | assumption | (simp [*]; done), by first | assumption | (simp [*]; done), by first | assumption | (simp [*]; done), by first | assumption | exact grownBy_drew | exact grownBy_trans (by assumption) (by assumption)⟩))
        (first
          | (go_at_call 69; refine (frm_parts1 _ _).mono ?_; rintro e w2 ⟨pb, pc, rfl, hpb, hg, hpc⟩; have q0 := hg.cell (a := ⟨w.heap.size, 0, none⟩) (v := .string ⟨t.toArray⟩) (by assumption) (by simp); have q1 := hg.cell (a := ⟨w.heap.size, 1, none⟩) (v := .string ⟨f.toArray⟩) (by assumption) (by simp); have q2 := hg.cell (a := ⟨w.heap.size, 2, none⟩) (v := .int .i64 v) (by assumption) (by simp); have q3 := hg.cell (a := ⟨w.heap.size, 3, none⟩) (v := .int .i64 k) (by assumption) (by simp); have q4 := hg.cell (a := ⟨w.heap.size, 4, none⟩) (v := .string ⟨b.toArray⟩) (by assumption) (by simp); have q5 := grownBy_trans grownBy_drew hg; have HPC := Lib.hid hpc; clear hpc)
          | (go_at_call 62; refine (put_as (frameH t f v k) _ _ (frmParts w.heap.size true) (frmOl t f v k true) _ HL.out hlt.out.1 hlt.out.2.1 hlt.out.2.2 HPC.out (frm_out _ _ _ _ _ _ _ (by assumption) (by assumption) (by assumption) (by assumption))).mono ?_; rintro e w3 ⟨rfl, hg⟩; have q0 := hg.cell (a := ⟨w.heap.size, 0, none⟩) (v := .string ⟨t.toArray⟩) (by assumption) (by simp); have q1 := hg.cell (a := ⟨w.heap.size, 1, none⟩) (v := .string ⟨f.toArray⟩) (by assumption) (by simp); have q2 := hg.cell (a := ⟨w.heap.size, 2, none⟩) (v := .int .i64 v) (by assumption) (by simp); have q3 := hg.cell (a := ⟨w.heap.size, 3, none⟩) (v := .int .i64 k) (by assumption) (by simp); have q4 := hg.cell (a := ⟨w.heap.size, 4, none⟩) (v := .string ⟨b.toArray⟩) (by assumption) (by simp); have q6 := grownBy_trans q5 hg))
      go_wp2_with fail
      go_ret
      refine ⟨ret_ba ?_, ?_⟩
      · rw [HE.out.2, frameT, ba_append]
      · first
          | exact grownBy_trans HG.out (by assumption)
          | (rename_i hH _; exact grownBy_trans HG.out hH.2.2.2.2.2)
          | (rename_i hH; exact grownBy_trans HG.out hH.2.2.2.2.2)
  · have HE := Lib.hid (show frameL t f v k b = [] from if_neg hok)
    have HD := Lib.hid (decide_eq_false hok)
    clear hok
    go_enter Try.func35, Try.ntmps35
    go_wp2_with fail
    refine (frame_ok_impl _ _ _ _ _ _).mono ?_
    rintro e w1 ⟨rfl, hg⟩
    rw [HD.out]
    have HG := Lib.hid (grownBy_trans (World.grownBy_alloc _ _ _) hg)
    clear hg
    go_wp2_with fail
    go_ret
    exact ⟨ret_s (a := []) HE.out.symm, HG.out⟩

end Go.Proofs.Ytihaamgimakcoaa
