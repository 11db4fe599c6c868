/- The model's reading of a frame. -/
import Derived.Test.YtpihfhpdamjefaaFrmI
import Derived.Deep.RegionHeld3
namespace Go.Proofs.Ytpihfhpdamjefaa
open Go.RowKit

theorem get_mid (l : List UInt8) (a b : Nat) (hab : a ≤ b) (h1 : a < b) (h6 : b ≤ a + 6) (hl : b ≤ l.length) (w : World) : Calls Try.prog 33 #[.string (({ data := l.toArray } : ByteArray).extract a b)] w fun e w' => e = .returned (.int .i64 (getBe ((l.drop a).take (b - a)))) ∧ w' = w := by
  have hn : ((l.drop a).take (b - a)).length = b - a := mid_len l a (b - a) (by omega)
  rw [extract_mid l a b hab]
  refine (get_spec1 _ _ ?_).mono ?_
  · rw [str_size]; omega
  · rintro e w' ⟨rfl, rfl⟩
    refine ⟨?_, rfl⟩
    rw [str_size, getBe_in _ (by omega)]
theorem get_mid_q (l : List UInt8) (a b : Nat) (hab : a ≤ b) (h1 : a < b) (h6 : b ≤ a + 6) (hl : b ≤ l.length) (w : World) (n : Nat) : Calls Try.prog 33 #[.string (({ data := l.toArray } : ByteArray).extract a b)] (w.drewN n) fun e w'' => e = .returned (.int .i64 (getBe ((l.drop a).take (b - a)))) ∧ ∃ m, w'' = w.drewN m :=
  (get_mid l a b hab h1 h6 hl _).mono fun _ _ h => ⟨h.1, n, h.2⟩
theorem not_long (l : List UInt8) (h : l.length < 14) : ¬ readOk l := by
  intro h1
  have := h1.1
  split at this <;> omega

theorem ext_head (l : List UInt8) (n : Nat) : ({ data := l.toArray } : ByteArray).extract 0 n = ⟨(l.take n).toArray⟩ := by rw [extract_mid _ _ _ (Nat.zero_le _)]; simp
theorem ext_tail (l : List UInt8) (n : Nat) : ({ data := l.toArray } : ByteArray).extract n l.length = ⟨(l.drop n).toArray⟩ := by
  have := str_drop l n
  simpa using this
theorem ext_three (l : List UInt8) (n : Nat) : ({ data := l.toArray } : ByteArray).extract 0 6 = ⟨(l.take 6).toArray⟩ ∧ ({ data := l.toArray } : ByteArray).extract 6 12 = ⟨((l.drop 6).take 6).toArray⟩ ∧ ({ data := l.toArray } : ByteArray).extract n l.length = ⟨(l.drop n).toArray⟩ :=
  ⟨ext_head l 6, extract_mid l 6 12 (by omega), ext_tail l n⟩

set_option maxRecDepth 100000 in
set_option maxHeartbeats 2000000 in
theorem frame_model (l : List UInt8) (hl : l.length ≤ 1000000000000) (w : World) : Calls Try.prog 16 #[.string ⟨l.toArray⟩] w (FrmPost w l) := by
  have HR := Lib.hid (frm_new w (.string ⟨#[]⟩) (.string ⟨#[]⟩) (.int .i64 0) (.int .i64 0) (.string ⟨#[]⟩) 25)
  by_cases h14 : 14 ≤ l.length
  · cases ht : tagL l
    · have HT := Lib.hid ht
      have HI := Lib.hid (plain_iff l h14 ht)
      clear ht
      have b6 : (6 : Int) ≤ (l.length : Int) := by omega
      have b12 : (12 : Int) ≤ (l.length : Int) := by omega
      have b14 : (14 : Int) ≤ (l.length : Int) := by omega
      go_enter Try.func16, Try.ntmps16
      go_wp2_with fail
      have hx := Lib.hid (ext_three l 14)
      have hkf : (getBe ((l.drop 12).take 2) == 33024) = false := by
        have h1 := HT.out
        unfold tagL at h1
        have h2 := of_decide_eq_false h1
        simp only [beq_eq_false_iff_ne, ne_eq]
        exact fun h => h2 ⟨h14, h⟩
      have HW := Lib.hid (World.grownBy.refl (w.alloc (.cells #[.string ⟨#[]⟩, .string ⟨#[]⟩, .int .i64 0, .int .i64 0, .string ⟨#[]⟩] 25)) none)
      generalize w.alloc (.cells #[.string ⟨#[]⟩, .string ⟨#[]⟩, .int .i64 0, .int .i64 0, .string ⟨#[]⟩] 25) = w0 at *
      go_region_held3 (fun w' => w0.grownBy w' none) ((first | exact HW.out | assumption | exact grownBy_drew | exact grownBy_trans (by assumption) grownBy_drew | exact grownBy_trans (by assumption) (World.grownBy_alloc _ _ _) | exact grownBy_trans (World.grownBy_alloc _ _ _) grownBy_drew | exact grownBy_trans grownBy_drew (World.grownBy_alloc _ _ _)))
        (first | (go_at_call 33; refine (get_mid l 12 14 (by omega) (by omega) (by omega) h14 _).mono ?_; rintro e w2 ⟨rfl, rfl⟩))
      all_goals
        simp only [hx.out]
        have hM := (frm_new w0 (.string ⟨(l.take 6).toArray⟩) (.string ⟨((l.drop 6).take 6).toArray⟩) (.int .i64 (-1)) (.int .i64 (getBe ((l.drop 12).take 2))) (.string ⟨(l.drop 14).toArray⟩) 25).drew
        generalize (w0.alloc (.cells #[.string ⟨(l.take 6).toArray⟩, .string ⟨((l.drop 6).take 6).toArray⟩, .int .i64 (-1), .int .i64 (getBe ((l.drop 12).take 2)), .string ⟨(l.drop 14).toArray⟩] 25)).drew = w3 at *
        obtain ⟨c0, c1, c2, c3, c4, _⟩ := frm_facts hM
        have HM := Lib.hid hM
        clear hM
        go_wp2_with fail
        refine (frame_spec _ _ _ _ _ _).mono ?_
        rintro e w4 ⟨rfl, hg⟩
        have h5 := HM.out.kept hg
        clear hg c0 c1 c2 c3 c4 HM
        obtain ⟨c0, c1, c2, c3, c4, _⟩ := frm_facts h5
        obtain ⟨r0, r1, r2, r3, r4, _⟩ := frm_facts (HR.out.kept h5.grown)
        obtain ⟨z0, z1, z2, z3, z4⟩ := frm_frees (HR.out.kept h5.grown)
        have H5 := Lib.hid (grownBy_trans HR.out.grown h5.grown)
        clear h5
        generalize frameL (l.take 6) ((l.drop 6).take 6) (-1) (getBe ((l.drop 12).take 2)) (l.drop 14) = s at HI ⊢
        by_cases hs : s = l
        · have HO := Lib.hid (HI.out.1 hs)
          have hv : frmAt l = ⟨l.take 6, (l.drop 6).take 6, -1, getBe ((l.drop 12).take 2), l.drop 14⟩ := by rw [frmAt, HT.out]; rfl
          have HV := Lib.hid hv
          clear HI hv
          subst hs
          go_wp2_with fail
          refine bodyPost_ret (v := .tuple #[(frmAt s).val, .bool true]) ?_ rfl (post_frm HO.out (res_grown _ _ _ _ _ H5.out (Nat.le_refl _)))
          rw [HV.out]
          simp [results, Try.results16, go_sem, r0, r1, r2, r3, r4]
        · have HO := Lib.hid (fun h => hs (HI.out.2 h) : ¬ readOk l)
          have hs1 : (s == l) = false := by simpa using hs
          have hs2 : (s != l) = true := by simpa using hs
          go_wp2_with fail
          refine bodyPost_ret (v := .tuple #[zeroF.val, .bool false]) ?_ rfl (post_zero HO.out (res_grown _ _ _ _ _ H5.out (Nat.le_refl _)))
          simp [results, Try.results16, go_sem, r0, r1, r2, r3, r4, zeroF, Frm.val]
    · have HT := Lib.hid ht
      clear ht
      have b6 : (6 : Int) ≤ (l.length : Int) := by omega
      have b12 : (12 : Int) ≤ (l.length : Int) := by omega
      have b14 : (14 : Int) ≤ (l.length : Int) := by omega
      go_enter Try.func16, Try.ntmps16
      go_wp2_with fail
      have hx := Lib.hid (ext_three l 14)
      have hkf : (getBe ((l.drop 12).take 2) == 33024) = true := by
        have h1 := HT.out
        unfold tagL at h1
        have h2 := of_decide_eq_true h1
        simp only [beq_iff_eq]
        exact h2.2
      have HW := Lib.hid (World.grownBy.refl (w.alloc (.cells #[.string ⟨#[]⟩, .string ⟨#[]⟩, .int .i64 0, .int .i64 0, .string ⟨#[]⟩] 25)) none)
      generalize w.alloc (.cells #[.string ⟨#[]⟩, .string ⟨#[]⟩, .int .i64 0, .int .i64 0, .string ⟨#[]⟩] 25) = w0 at *
      go_region_held3 (fun w' => w0.grownBy w' none) ((first | exact HW.out | assumption | exact grownBy_drew | exact grownBy_trans (by assumption) grownBy_drew | exact grownBy_trans (by assumption) (World.grownBy_alloc _ _ _) | exact grownBy_trans (World.grownBy_alloc _ _ _) grownBy_drew | exact grownBy_trans grownBy_drew (World.grownBy_alloc _ _ _)))
        (first | (go_at_call 33; refine (get_mid l 12 14 (by omega) (by omega) (by omega) h14 _).mono ?_; rintro e w2 ⟨rfl, rfl⟩))
      all_goals
        simp only [hx.out]
        have hM := (frm_new w0 (.string ⟨(l.take 6).toArray⟩) (.string ⟨((l.drop 6).take 6).toArray⟩) (.int .i64 (-1)) (.int .i64 (getBe ((l.drop 12).take 2))) (.string ⟨(l.drop 14).toArray⟩) 25).drew
        generalize (w0.alloc (.cells #[.string ⟨(l.take 6).toArray⟩, .string ⟨((l.drop 6).take 6).toArray⟩, .int .i64 (-1), .int .i64 (getBe ((l.drop 12).take 2)), .string ⟨(l.drop 14).toArray⟩] 25)).drew = w3 at *
        obtain ⟨c0, c1, c2, c3, c4, _⟩ := frm_facts hM
        obtain ⟨y0, y1, y2, y3, y4⟩ := frm_frees hM
        have HM := Lib.hid hM
        by_cases h18 : 18 ≤ l.length
        · have HI := Lib.hid (tag_iff l h18 HT.out)
          have h18i : (18 : Int) ≤ (l.length : Int) := by omega
          have h16i : (16 : Int) ≤ (l.length : Int) := by omega
          have hm1 := hM.set ⟨w0.heap.size, 2, none⟩ _ (.int .i64 (getBe ((l.drop 14).take 2) % 4096)) (by simp only [frmCells]; exact .tail _ (.tail _ (.head _)))
          have hm2 := hm1.set ⟨w0.heap.size, 3, none⟩ _ (.int .i64 (getBe ((l.drop 16).take 2))) (by simp only [frmCells, List.map]; exact .tail _ (.tail _ (.tail _ (.head _))))
          have hm3 := hm2.set ⟨w0.heap.size, 4, none⟩ _ (.string ⟨(l.drop 18).toArray⟩) (by simp only [frmCells, List.map]; exact .tail _ (.tail _ (.tail _ (.tail _ (.head _)))))
          have hfm : ∀ t f v k b x y z, ((((frmCells w0.heap.size t f v k b).map fun u => (u.1, if (⟨w0.heap.size, 2, none⟩ : Addr) = u.1 then x else u.2)).map fun u => (u.1, if (⟨w0.heap.size, 3, none⟩ : Addr) = u.1 then y else u.2)).map fun u => (u.1, if (⟨w0.heap.size, 4, none⟩ : Addr) = u.1 then z else u.2)) = frmCells w0.heap.size t f x y z := by intros; simp [frmCells]
          rw [hfm] at hm3
          have H3 := Lib.hid hm3
          have hbd := getBe2 ((l.drop 14).take 2) (mid_len l 14 2 (by omega))
          have hrem : (getBe ((l.drop 14).take 2)).tmod 4096 = getBe ((l.drop 14).take 2) % 4096 := Int.tmod_eq_emod_of_nonneg hbd.1
          have HB := Lib.hid hbd
          clear hm1 hm2 hm3 hfm hM hbd
          go_wp2_with fail
          refine (get_mid l 14 16 (by omega) (by omega) (by omega) (by omega) _).mono ?_
          rintro e w4 ⟨rfl, rfl⟩
          go_wp2_with fail
          refine (get_mid l 16 18 (by omega) (by omega) (by omega) (by omega) _).mono ?_
          rintro e w5 ⟨rfl, rfl⟩
          go_wp2_with fail
          rw [ext_tail]
          refine (frame_spec _ _ _ _ _ _).mono ?_
          rintro e w5 ⟨rfl, hg⟩
          have h5 := H3.out.kept hg
          clear hg c0 c1 c2 c3 c4 HM H3 y0 y1 y2 y3 y4
          obtain ⟨c0, c1, c2, c3, c4, _⟩ := frm_facts h5
          obtain ⟨r0, r1, r2, r3, r4, _⟩ := frm_facts (HR.out.kept h5.grown)
          obtain ⟨z0, z1, z2, z3, z4⟩ := frm_frees (HR.out.kept h5.grown)
          have H5 := Lib.hid (grownBy_trans HR.out.grown h5.grown)
          clear h5
          generalize hfl : frameL (l.take 6) ((l.drop 6).take 6) (getBe ((l.drop 14).take 2) % 4096) (getBe ((l.drop 16).take 2)) (l.drop 18) = s at HI ⊢
          by_cases hs : s = l
          · have HO := Lib.hid (HI.out.1 hs)
            have hv : frmAt l = ⟨l.take 6, (l.drop 6).take 6, getBe ((l.drop 14).take 2) % 4096, getBe ((l.drop 16).take 2), l.drop 18⟩ := by
              have h4 : getBe ((l.drop 14).take 2) < 4096 := by
                have h6 := HO.out.2
                unfold frmAt Frm.ok at h6
                rw [HT.out] at h6
                have := h6.2.2.2.1
                simp only [if_true] at this
                omega
              rw [Int.emod_eq_of_lt HB.out.1 h4, frmAt, HT.out]
              rfl
            have HV := Lib.hid hv
            clear HI hv hfl
            subst hs
            go_wp2_with fail
            refine bodyPost_ret (v := .tuple #[(frmAt s).val, .bool true]) ?_ rfl (post_frm HO.out (res_grown _ _ _ _ _ H5.out (Nat.le_refl _)))
            rw [HV.out]
            simp [results, Try.results16, go_sem, r0, r1, r2, r3, r4]
          · have HO := Lib.hid (fun h => hs (HI.out.2 h) : ¬ readOk l)
            have hs1 : (s == l) = false := by simpa using hs
            have hs2 : (s != l) = true := by simpa using hs
            clear hfl
            go_wp2_with fail
            refine bodyPost_ret (v := .tuple #[zeroF.val, .bool false]) ?_ rfl (post_zero HO.out (res_grown _ _ _ _ _ H5.out (Nat.le_refl _)))
            simp [results, Try.results16, go_sem, r0, r1, r2, r3, r4, zeroF, Frm.val]
        · have HN := Lib.hid (show ¬ readOk l by
            intro h
            have h1 := h.1
            rw [HT.out] at h1
            exact h18 h1)
          have hi18 : decide ((l.length : Int) < 18) = true := by simp; omega
          obtain ⟨r0, r1, r2, r3, r4, _⟩ := frm_facts (HR.out.kept hM.grown)
          obtain ⟨z0, z1, z2, z3, z4⟩ := frm_frees (HR.out.kept hM.grown)
          have H5 := Lib.hid (grownBy_trans HR.out.grown hM.grown)
          clear hM HM
          go_wp2_with fail
          refine bodyPost_ret (v := .tuple #[zeroF.val, .bool false]) ?_ rfl (post_zero HN.out (res_grown _ _ _ _ _ H5.out (Nat.le_refl _)))
          simp [results, Try.results16, go_sem, r0, r1, r2, r3, r4, zeroF, Frm.val]
  · have HN := Lib.hid (not_long l (by omega))
    have hlt : decide ((l.length : Int) < 14) = true := by simp; omega
    clear h14
    go_enter Try.func16, Try.ntmps16
    go_wp2_with fail
    refine bodyPost_ret (v := .tuple #[zeroF.val, .bool false]) ?_ rfl (post_zero HN.out HR.out.grown)
    simp [results, Try.results16, go_sem, zeroF, Frm.val]

end Go.Proofs.Ytpihfhpdamjefaa
