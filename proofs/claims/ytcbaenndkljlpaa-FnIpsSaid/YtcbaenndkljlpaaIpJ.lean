/- The model's reading of a packet. -/
import Derived.Test.YtcbaenndkljlpaaIpI
import Derived.Deep.RegionHeld3
namespace Go.Proofs.Ytcbaenndkljlpaa
open Go.RowKit

theorem get_mid (l : List UInt8) (a b : Nat) (hab : a ≤ b) (h1 : a < b) (h6 : b ≤ a + 6) (hl : b ≤ l.length) (w : World) : Calls Try.prog 30 #[.string (({ data := l.toArray } : ByteArray).extract a b)] w fun e w' => e = .returned (.int .i64 (getBe ((l.drop a).take (b - a)))) ∧ w' = w := by
  have hn : ((l.drop a).take (b - a)).length = b - a := mid_len l a (b - a) (by omega)
  rw [extract_mid l a b hab]
  refine (get_spec1 _ _ ?_).mono ?_
  · rw [str_size]; omega
  · rintro e w' ⟨rfl, rfl⟩
    refine ⟨?_, rfl⟩
    rw [str_size, getBe_in _ (by omega)]
theorem get_mid_q (l : List UInt8) (a b : Nat) (hab : a ≤ b) (h1 : a < b) (h6 : b ≤ a + 6) (hl : b ≤ l.length) (w : World) (n : Nat) : Calls Try.prog 30 #[.string (({ data := l.toArray } : ByteArray).extract a b)] (w.drewN n) fun e w'' => e = .returned (.int .i64 (getBe ((l.drop a).take (b - a)))) ∧ ∃ m, w'' = w.drewN m :=
  (get_mid l a b hab h1 h6 hl _).mono fun _ _ h => ⟨h.1, n, h.2⟩
theorem ext_in (l : List UInt8) (k m : Nat) (h : k = m + 20) : ({ data := l.toArray } : ByteArray).extract 20 k = ⟨((l.drop 20).take m).toArray⟩ := by
  rw [extract_mid l 20 k (by omega), show k - 20 = m by omega]

set_option maxRecDepth 100000 in
set_option maxHeartbeats 4000000 in
theorem ip_model (l : List UInt8) (hl : l.length ≤ 1000000000000) (w : World) : Calls Try.prog 13 #[.string ⟨l.toArray⟩] w (IpPost w l) := by
  have HR := Lib.hid (ip_new w (.int .i64 0) (.int .i64 0) (.int .i64 0) (.int .i64 0) (.int .i64 0) (.string ⟨#[]⟩) 25)
  by_cases h20 : 20 ≤ l.length
  · have b4 : (4 : Int) ≤ (l.length : Int) := by omega
    have b20 : (20 : Int) ≤ (l.length : Int) := by omega
    have hsz := getBe2 ((l.drop 2).take 2) (mid_len l 2 2 (by omega))
    obtain ⟨k, hk⟩ := Int.eq_ofNat_of_zero_le hsz.1
    have hk' : sizeIp l = (k : Int) := hk
    clear hsz
    by_cases hin : 20 ≤ k ∧ k ≤ l.length
    · obtain ⟨m, hkm⟩ : ∃ m, k = m + 20 := ⟨k - 20, by omega⟩
      have HI := Lib.hid (good_iff l k m h20 hk' hkm (by omega))
      have hb0 : (0 : Int) ≤ (k : Int) := by omega
      have hb1 : (20 : Int) ≤ (k : Int) := by omega
      have hb2 : (k : Int) ≤ (l.length : Int) := by omega
      have HB := Lib.hid (show inB (k : Int) 20 (l.length : Int) = true by unfold inB; simp; omega)
      have HX := Lib.hid (ext_in l k m hkm)
      have HK := Lib.hid hk
      clear hk hk' hin hkm
      go_enter Try.func13, Try.ntmps13
      go_wp2_with fail
      refine (get_mid l 2 4 (by omega) (by omega) (by omega) (by omega) _).mono ?_
      rintro e w1 ⟨rfl, rfl⟩
      rw [HK.out]
      go_wp2_with fail
      refine (in_any _ _ _ _).mono ?_
      rintro e w2 ⟨rfl, rfl⟩
      rw [HB.out]
      have c1 : (6 : Int) ≤ (l.length : Int) := by omega
      have c2 : (9 : Int) ≤ (l.length : Int) := by omega
      have c3 : (10 : Int) ≤ (l.length : Int) := by omega
      have c4 : (16 : Int) ≤ (l.length : Int) := by omega
      generalize hW : w.alloc (.cells #[.int .i64 0, .int .i64 0, .int .i64 0, .int .i64 0, .int .i64 0, .string ⟨#[]⟩] 25) = w0 at *
      clear hW
      go_wp2_with fail
      have HW := Lib.hid (World.grownBy.refl w0 none)
      go_region_held3 (fun w' => w0.grownBy w' none) ((first | exact HW.out | assumption | exact grownBy_drew | exact grownBy_trans (by assumption) grownBy_drew | exact grownBy_trans (by assumption) (World.grownBy_alloc _ _ _) | exact grownBy_trans (World.grownBy_alloc _ _ _) grownBy_drew | exact grownBy_trans grownBy_drew (World.grownBy_alloc _ _ _)))
        (first | (go_at_call 30; refine (get_mid l _ _ (by omega) (by omega) (by omega) (by omega) _).mono ?_; rintro e w2 ⟨rfl, rfl⟩))
      all_goals
        simp only [HX.out]
        have hM := (ip_new w0 (.int .i64 (getBe ((l.drop 12).take 4))) (.int .i64 (getBe ((l.drop 16).take 4))) (.int .i64 (getBe ((l.drop 8).take 1))) (.int .i64 (getBe ((l.drop 9).take 1))) (.int .i64 (getBe ((l.drop 4).take 2))) (.string ⟨((l.drop 20).take m).toArray⟩) 25).drew
        generalize (w0.alloc (.cells #[.int .i64 (getBe ((l.drop 12).take 4)), .int .i64 (getBe ((l.drop 16).take 4)), .int .i64 (getBe ((l.drop 8).take 1)), .int .i64 (getBe ((l.drop 9).take 1)), .int .i64 (getBe ((l.drop 4).take 2)), .string ⟨((l.drop 20).take m).toArray⟩] 25)).drew = w3 at *
        obtain ⟨c0, c1, c2, c3, c4, c5⟩ := ip_facts hM
        have HM := Lib.hid hM
        clear hM
        go_wp2_with fail
        go_region_held3 (fun w' => w'.cell? ⟨w0.heap.size, 0, none⟩ = some (.int .i64 (getBe ((l.drop 12).take 4))) ∧ w'.cell? ⟨w0.heap.size, 1, none⟩ = some (.int .i64 (getBe ((l.drop 16).take 4))) ∧ w'.cell? ⟨w0.heap.size, 2, none⟩ = some (.int .i64 (getBe ((l.drop 8).take 1))) ∧ w'.cell? ⟨w0.heap.size, 3, none⟩ = some (.int .i64 (getBe ((l.drop 9).take 1))) ∧ w'.cell? ⟨w0.heap.size, 4, none⟩ = some (.int .i64 (getBe ((l.drop 4).take 2))) ∧ w'.cell? ⟨w0.heap.size, 5, none⟩ = some (.string ⟨((l.drop 20).take m).toArray⟩) ∧ w3.grownBy w' none) ((refine ⟨by first | assumption | (simp [*]; done), by first | assumption | (simp [*]; done), by first | assumption | (simp [*]; done), by first | assumption | (simp [*]; done), by first | assumption | (simp [*]; done), by first | assumption | (simp [*]; done), by first | assumption | exact grownBy_drew | exact grownBy_trans (by assumption) (by assumption)⟩))
          (first | (go_at_call 14; refine (ip_spec _ _ _ _ _ _ _).mono ?_; rintro e w5 ⟨rfl, hg⟩; have q0 := hg.cell (a := ⟨w0.heap.size, 0, none⟩) (v := .int .i64 (getBe ((l.drop 12).take 4))) (by assumption) (by simp); have q1 := hg.cell (a := ⟨w0.heap.size, 1, none⟩) (v := .int .i64 (getBe ((l.drop 16).take 4))) (by assumption) (by simp); have q2 := hg.cell (a := ⟨w0.heap.size, 2, none⟩) (v := .int .i64 (getBe ((l.drop 8).take 1))) (by assumption) (by simp); have q3 := hg.cell (a := ⟨w0.heap.size, 3, none⟩) (v := .int .i64 (getBe ((l.drop 9).take 1))) (by assumption) (by simp); have q4 := hg.cell (a := ⟨w0.heap.size, 4, none⟩) (v := .int .i64 (getBe ((l.drop 4).take 2))) (by assumption) (by simp); have q5 := hg.cell (a := ⟨w0.heap.size, 5, none⟩) (v := .string ⟨((l.drop 20).take m).toArray⟩) (by assumption) (by simp); have q7 : w3.grownBy w5 none := by first | exact grownBy_trans grownBy_drew hg | exact grownBy_trans (by assumption) hg))
        rename_i hH
        have H6 := Lib.hid (HM.out.kept hH.2.2.2.2.2.2)
        clear c0 c1 c2 c3 c4 c5 hH
        obtain ⟨c0, c1, c2, c3, c4, c5⟩ := ip_facts H6.out
        obtain ⟨r0, r1, r2, r3, r4, r5⟩ := ip_facts (HR.out.kept H6.out.grown)
        obtain ⟨y0, y1, y2, y3, y4, y5⟩ := ip_frees (HR.out.kept H6.out.grown)
        have H5 := Lib.hid (grownBy_trans HR.out.grown H6.out.grown)
        clear q0 q1 q2 q3 q4 q5 q7 hg H6 HM
        simp only [ext_head, ba_list]
        by_cases hs : ipL (getBe ((l.drop 12).take 4)) (getBe ((l.drop 16).take 4)) (getBe ((l.drop 8).take 1)) (getBe ((l.drop 9).take 1)) (getBe ((l.drop 4).take 2)) ((l.drop 20).take m) = l.take k
        · have HO := Lib.hid (HI.out.2.2 hs)
          rw [hs]
          clear hs
          simp only [beq_self_eq_true, Bool.not_true]
          go_wp2_with fail
          refine bodyPost_ret (v := .tuple #[(ipAt l).val, .bool true]) ?_ rfl (post_ip HO.out (res6_grown _ _ _ _ _ _ H5.out (Nat.le_refl _)))
          rw [HI.out.1]
          simp [results, Try.results13, go_sem, r0, r1, r2, r3, r4, r5]
        · have HO := Lib.hid (fun h => hs (HI.out.2.1 h) : ¬ ipGood l)
          generalize ipL (getBe ((l.drop 12).take 4)) (getBe ((l.drop 16).take 4)) (getBe ((l.drop 8).take 1)) (getBe ((l.drop 9).take 1)) (getBe ((l.drop 4).take 2)) ((l.drop 20).take m) = s at hs ⊢
          have hs1 : (s == l.take k) = false := by simpa using hs
          simp only [hs1, Bool.not_false]
          go_wp2_with fail
          refine bodyPost_ret (v := .tuple #[zeroI.val, .bool false]) ?_ rfl (post_noip HO.out (res6_grown _ _ _ _ _ _ H5.out (Nat.le_refl _)))
          simp [results, Try.results13, go_sem, r0, r1, r2, r3, r4, r5, zeroI, Ipk.val]
    · have HN := Lib.hid (show ¬ ipGood l by
        intro h
        have h1 := h.2.1
        have h2 := h.2.2.1
        rw [hk'] at h1 h2
        omega)
      have HB := Lib.hid (show inB (k : Int) 20 (l.length : Int) = false by unfold inB; simp; omega)
      have HK := Lib.hid hk
      clear hk hk' hin
      go_enter Try.func13, Try.ntmps13
      go_wp2_with fail
      refine (get_mid l 2 4 (by omega) (by omega) (by omega) (by omega) _).mono ?_
      rintro e w1 ⟨rfl, rfl⟩
      rw [HK.out]
      go_wp2_with fail
      refine (in_any _ _ _ _).mono ?_
      rintro e w2 ⟨rfl, rfl⟩
      rw [HB.out]
      go_wp2_with fail
      refine bodyPost_ret (v := .tuple #[zeroI.val, .bool false]) ?_ rfl (post_noip HN.out HR.out.grown)
      simp [results, Try.results13, go_sem, zeroI, Ipk.val]
  · have HN := Lib.hid (fun h => h20 h.1 : ¬ ipGood l)
    have hlt : (l.length : Int) < 20 := by omega
    clear h20
    go_enter Try.func13, Try.ntmps13
    go_wp2_with fail
    refine bodyPost_ret (v := .tuple #[zeroI.val, .bool false]) ?_ rfl (post_noip HN.out HR.out.grown)
    simp [results, Try.results13, go_sem, zeroI, Ipk.val]

end Go.Proofs.Ytcbaenndkljlpaa
