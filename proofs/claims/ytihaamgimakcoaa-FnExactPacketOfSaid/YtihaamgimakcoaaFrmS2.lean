/- The model's writing and reading of a frame. -/
import Derived.Test.YtihaamgimakcoaaFrmR
import Derived.Test.YtihaamgimakcoaaGetP
import Derived.Test.YtihaamgimakcoaaBeInt
namespace Go.Proofs.Ytihaamgimakcoaa
open Go.RowKit

theorem ba_list (m : List UInt8) : ({ data := m.toArray } : ByteArray).toList = m := by simp

theorem putL_nat (n k : Nat) (h1 : 1 ≤ k) (h6 : k ≤ 6) (hn : n < 256 ^ k) : putL (n : Int) (k : Int) = beL n k := by
  have hn' : (n : Int) < 256 ^ (k : Int).toNat := by
    have e : ((256 : Int) ^ (k : Int).toNat) = ((256 ^ k : Nat) : Int) := by rw [Int.toNat_natCast, Int.natCast_pow]; rfl
    rw [e]
    exact Int.ofNat_lt.mpr hn
  rw [putL_ok ⟨by omega, by omega, by omega, hn'⟩, Int.toNat_natCast, Int.toNat_natCast]
set_option maxRecDepth 100000 in
set_option maxHeartbeats 2000000 in
theorem frame_spec (t f : List UInt8) (v k : Int) (b : List UInt8) (w : World) : Calls Try.prog 57 #[frameV t f v k b] w (StrPost w (frameL t f v k b)) := by
  by_cases hok : frameOk t f v k b
  · have HE := Lib.hid (And.intro hok (show frameL t f v k b = frameT t f v k b from if_pos hok))
    have HD := Lib.hid (decide_eq_true hok)
    obtain ⟨ht, hf, v0, v1, k0, k1, k2, hb⟩ := hok
    have hkl : ¬ 9223372036854775807 < t.length + f.length := by omega
    have hn := two_len k (by omega) (by omega)
    have h8 := two_len 33024 (by omega) (by omega)
    have HT := Lib.hid ht
    have HF := Lib.hid hf
    clear ht hf
    by_cases hv : v = -1
    · subst hv
      have hkl2 : ¬ 9223372036854775807 < t.length + f.length + (putL k 2).length := by rw [HT.out, HF.out]; omega
      have hkl3 : ¬ 9223372036854775807 < t.length + f.length + (putL k 2).length + b.length := by rw [HT.out, HF.out]; omega
      clear hn h8
      go_enter Try.func57, Try.ntmps57
      go_wp2_with fail
      refine (frame_ok_spec _ _ _ _ _ _).mono ?_
      rintro e w1 ⟨rfl, hg⟩
      rw [HD.out]
      have hc0 := hg.cell (a := ⟨w.heap.size, 0, none⟩) (v := .string ⟨t.toArray⟩) (by go_simp) (by simp)
      have hc1 := hg.cell (a := ⟨w.heap.size, 1, none⟩) (v := .string ⟨f.toArray⟩) (by go_simp) (by simp)
      have hc2 := hg.cell (a := ⟨w.heap.size, 2, none⟩) (v := .int .i64 (-1)) (by go_simp) (by simp)
      have hc3 := hg.cell (a := ⟨w.heap.size, 3, none⟩) (v := .int .i64 k) (by go_simp) (by simp)
      have hc4 := hg.cell (a := ⟨w.heap.size, 4, none⟩) (v := .string ⟨b.toArray⟩) (by go_simp) (by simp)
      have HG := Lib.hid (grownBy_trans (World.grownBy_alloc _ _ _) hg)
      clear hg
      go_wp2_with fail
      simp only [ba_append]
      go_region_held3 (fun w' => w'.cell? ⟨w.heap.size, 0, none⟩ = some (.string ⟨t.toArray⟩) ∧ w'.cell? ⟨w.heap.size, 1, none⟩ = some (.string ⟨f.toArray⟩) ∧ w'.cell? ⟨w.heap.size, 2, none⟩ = some (.int .i64 (-1)) ∧ w'.cell? ⟨w.heap.size, 3, none⟩ = some (.int .i64 k) ∧ w'.cell? ⟨w.heap.size, 4, none⟩ = some (.string ⟨b.toArray⟩) ∧ w1.grownBy w' none) ((refine ⟨by first | assumption | (simp [*]; done), by first | assumption | (simp [*]; done), by first | assumption | (simp [*]; done), by first | assumption | (simp [*]; done), by first | assumption | (simp [*]; done), by first | assumption | exact grownBy_drew | exact grownBy_trans (by assumption) (by assumption)⟩))
        (first | (go_at_call 82; refine (be_two _ _ (by omega) (by omega)).mono ?_; rintro e w2 ⟨rfl, hg⟩; have q0 := hg.cell (a := ⟨w.heap.size, 0, none⟩) (v := .string ⟨t.toArray⟩) (by assumption) (by simp); have q1 := hg.cell (a := ⟨w.heap.size, 1, none⟩) (v := .string ⟨f.toArray⟩) (by assumption) (by simp); have q2 := hg.cell (a := ⟨w.heap.size, 2, none⟩) (v := .int .i64 (-1)) (by assumption) (by simp); have q3 := hg.cell (a := ⟨w.heap.size, 3, none⟩) (v := .int .i64 k) (by assumption) (by simp); have q4 := hg.cell (a := ⟨w.heap.size, 4, none⟩) (v := .string ⟨b.toArray⟩) (by assumption) (by simp); have q5 := grownBy_trans grownBy_drew hg))
      go_wp2_with fail
      go_ret
      refine ⟨ret_ba ?_, ?_⟩
      · simp only [HE.out.2, frameT_plain, ba_append]
      · first
          | exact grownBy_trans HG.out (by assumption)
          | (rename_i hH _; exact grownBy_trans HG.out hH.2.2.2.2.2)
          | (rename_i hH; exact grownBy_trans HG.out hH.2.2.2.2.2)
    · have hm := two_len v (by omega) (by omega)
      have hkl2 : ¬ 9223372036854775807 < t.length + f.length + (putL 33024 2).length := by rw [HT.out, HF.out]; omega
      have hkl3 : ¬ 9223372036854775807 < t.length + f.length + (putL 33024 2).length + (putL v 2).length := by rw [HT.out, HF.out]; omega
      have hkl4 : ¬ 9223372036854775807 < t.length + (f.length + ((putL 33024 2).length + (putL v 2).length)) + (putL k 2).length := by rw [HT.out, HF.out]; omega
      have hkl5 : ¬ 9223372036854775807 < t.length + (f.length + ((putL 33024 2).length + (putL v 2).length)) + (putL k 2).length + b.length := by rw [HT.out, HF.out]; omega
      clear hn h8 hm
      go_enter Try.func57, Try.ntmps57
      go_wp2_with fail
      refine (frame_ok_spec _ _ _ _ _ _).mono ?_
      rintro e w1 ⟨rfl, hg⟩
      rw [HD.out]
      have hc0 := hg.cell (a := ⟨w.heap.size, 0, none⟩) (v := .string ⟨t.toArray⟩) (by go_simp) (by simp)
      have hc1 := hg.cell (a := ⟨w.heap.size, 1, none⟩) (v := .string ⟨f.toArray⟩) (by go_simp) (by simp)
      have hc2 := hg.cell (a := ⟨w.heap.size, 2, none⟩) (v := .int .i64 v) (by go_simp) (by simp)
      have hc3 := hg.cell (a := ⟨w.heap.size, 3, none⟩) (v := .int .i64 k) (by go_simp) (by simp)
      have hc4 := hg.cell (a := ⟨w.heap.size, 4, none⟩) (v := .string ⟨b.toArray⟩) (by go_simp) (by simp)
      have HG := Lib.hid (grownBy_trans (World.grownBy_alloc _ _ _) hg)
      clear hg
      go_wp2_with fail
      simp only [ba_append]
      go_region_held3 (fun w' => w'.cell? ⟨w.heap.size, 0, none⟩ = some (.string ⟨t.toArray⟩) ∧ w'.cell? ⟨w.heap.size, 1, none⟩ = some (.string ⟨f.toArray⟩) ∧ w'.cell? ⟨w.heap.size, 2, none⟩ = some (.int .i64 v) ∧ w'.cell? ⟨w.heap.size, 3, none⟩ = some (.int .i64 k) ∧ w'.cell? ⟨w.heap.size, 4, none⟩ = some (.string ⟨b.toArray⟩) ∧ w1.grownBy w' none) ((refine ⟨by first | assumption | (simp [*]; done), by first | assumption | (simp [*]; done), by first | assumption | (simp [*]; done), by first | assumption | (simp [*]; done), by first | assumption | (simp [*]; done), by first | assumption | exact grownBy_drew | exact grownBy_trans (by assumption) (by assumption)⟩))
        (first | (go_at_call 82; refine (be_two _ _ (by omega) (by omega)).mono ?_; rintro e w2 ⟨rfl, hg⟩; have q0 := hg.cell (a := ⟨w.heap.size, 0, none⟩) (v := .string ⟨t.toArray⟩) (by assumption) (by simp); have q1 := hg.cell (a := ⟨w.heap.size, 1, none⟩) (v := .string ⟨f.toArray⟩) (by assumption) (by simp); have q2 := hg.cell (a := ⟨w.heap.size, 2, none⟩) (v := .int .i64 v) (by assumption) (by simp); have q3 := hg.cell (a := ⟨w.heap.size, 3, none⟩) (v := .int .i64 k) (by assumption) (by simp); have q4 := hg.cell (a := ⟨w.heap.size, 4, none⟩) (v := .string ⟨b.toArray⟩) (by assumption) (by simp); have q5 : w1.grownBy w2 none := by first | exact grownBy_trans grownBy_drew hg | exact grownBy_trans (by assumption) hg))
      rename_i hH
      have HG2 := Lib.hid (grownBy_trans HG.out hH.2.2.2.2.2)
      clear hg q5 hH
      go_wp2_with fail
      simp only [ba_append]
      go_region_held3 (fun w' => w'.cell? ⟨w.heap.size, 0, none⟩ = some (.string ⟨t.toArray⟩) ∧ w'.cell? ⟨w.heap.size, 1, none⟩ = some (.string ⟨f.toArray⟩) ∧ w'.cell? ⟨w.heap.size, 2, none⟩ = some (.int .i64 v) ∧ w'.cell? ⟨w.heap.size, 3, none⟩ = some (.int .i64 k) ∧ w'.cell? ⟨w.heap.size, 4, none⟩ = some (.string ⟨b.toArray⟩) ∧ w2.grownBy w' none) ((refine ⟨by first | assumption | (simp [*]; done), by first | assumption | (simp [*]; done), by first | assumption | (simp [*]; done), by first | assumption | (simp [*]; done), by first | assumption | (simp [*]; done), by first | assumption | exact grownBy_drew | exact grownBy_trans (by assumption) (by assumption)⟩))
        (first | (go_at_call 82; refine (be_two _ _ (by omega) (by omega)).mono ?_; rintro e w3 ⟨rfl, hg⟩; have q0 := hg.cell (a := ⟨w.heap.size, 0, none⟩) (v := .string ⟨t.toArray⟩) (by assumption) (by simp); have q1 := hg.cell (a := ⟨w.heap.size, 1, none⟩) (v := .string ⟨f.toArray⟩) (by assumption) (by simp); have q2 := hg.cell (a := ⟨w.heap.size, 2, none⟩) (v := .int .i64 v) (by assumption) (by simp); have q3 := hg.cell (a := ⟨w.heap.size, 3, none⟩) (v := .int .i64 k) (by assumption) (by simp); have q4 := hg.cell (a := ⟨w.heap.size, 4, none⟩) (v := .string ⟨b.toArray⟩) (by assumption) (by simp); have q6 : w2.grownBy w3 none := by first | exact grownBy_trans grownBy_drew hg | exact grownBy_trans (by assumption) hg))
      go_wp2_with fail
      go_ret
      refine ⟨ret_ba ?_, ?_⟩
      · simp only [HE.out.2, frameT_tag _ _ _ _ _ hv, ba_append, List.append_assoc]
      · first
          | exact grownBy_trans HG2.out (by assumption)
          | (rename_i hH _; exact grownBy_trans HG2.out hH.2.2.2.2.2)
          | (rename_i hH; exact grownBy_trans HG2.out hH.2.2.2.2.2)
  · have HE := Lib.hid (show frameL t f v k b = [] from if_neg hok)
    have HD := Lib.hid (decide_eq_false hok)
    clear hok
    go_enter Try.func57, Try.ntmps57
    go_wp2_with fail
    refine (frame_ok_spec _ _ _ _ _ _).mono ?_
    rintro e w1 ⟨rfl, hg⟩
    rw [HD.out]
    have HG := Lib.hid (grownBy_trans (World.grownBy_alloc _ _ _) hg)
    clear hg
    go_wp2_with fail
    go_ret
    exact ⟨ret_s (a := []) HE.out.symm, HG.out⟩

set_option maxRecDepth 100000 in
set_option maxHeartbeats 1000000 in
theorem tag_any (l : List UInt8) (w : World) : Calls Try.prog 74 #[.string ⟨l.toArray⟩] w fun e w' => e = .returned (.bool (tagL l)) ∧ w.grownBy w' none := by
  by_cases h14 : 14 ≤ l.length
  · have hd : decide ((14 : Int) ≤ (l.length : Int)) = true := by simp; omega
    have h14' : (14 : Int) ≤ (l.length : Int) := by omega
    go_enter Try.func74, Try.ntmps74
    go_wp2_with fail
    go_region_held3 (fun w' => w.grownBy w' none) ((first | assumption | exact grownBy_drew | exact grownBy_trans (by assumption) (by assumption))) (first | (go_at_call 64; refine (put_be_impl _ _ _).mono ?_; rintro e w2 ⟨rfl, hg⟩; have q5 := grownBy_trans grownBy_drew hg))
    go_wp2_with fail
    go_ret
    refine ⟨ret_b ?_, by assumption⟩
    have e : (({ data := l.toArray } : ByteArray).extract 12 14).toList = (l.drop 12).take 2 := by rw [extract_mid _ _ _ (by omega), ba_list]
    rw [e, tagL]
    refine Bool.eq_iff_iff.mpr ?_
    rw [beq_iff_eq, decide_eq_true_eq, tag_bytes l h14]
    exact ⟨fun h => ⟨h14, h⟩, fun h => h.2⟩
  · have hd : decide ((14 : Int) ≤ (l.length : Int)) = false := by simp; omega
    go_enter Try.func74, Try.ntmps74
    go_wp2_with fail
    go_quiet (fail)
    go_wp2_with fail
    go_ret
    refine ⟨ret_b ?_, ?_⟩
    · rw [tagL, decide_eq_false (fun h => h14 h.1)]
    · exact grownBy_drewN _

end Go.Proofs.Ytihaamgimakcoaa
