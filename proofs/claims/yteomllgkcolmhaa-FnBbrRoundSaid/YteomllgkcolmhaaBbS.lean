/- States of pipes: the model's test. -/
import Derived.Test.YteomllgkcolmhaaBb
namespace Go.Proofs.Yteomllgkcolmhaa
open Go.RowKit

set_option maxRecDepth 100000 in
set_option maxHeartbeats 2000000 in
theorem bb_ok_spec (p : Int) (a : Option Addr) (c : Nat) (l : List Rg) (r f s t : Int) (w : World) (h : RgAt w a l) (hl0 : (l.length : Int) ≤ 9223372036854775807) : Calls Try.prog 13 #[bbV p a l.length c r f s t] w fun e w' => e = .returned (.bool (bbOk p l r f s t)) ∧ w.grownBy w' none := by
  have H := Lib.hid h
  have HB := Lib.hid (And.intro (Bx.new w 26 (bbC p a l.length c r f s t)) (World.grownBy_alloc w (.cells (bbC p a l.length c r f s t) 26) none))
  clear h
  cases h0 : inB p 1 3
  · have H0 := Lib.hid h0
    have HR := Lib.hid (show True from trivial)
    have HV := Lib.hid (bb_no4 (l := l) (r := r) (f := f) (show phB p s t l.length = false from decide_eq_false (fun h => in_not h0 (by omega))))
    clear h0
    go_enter Try.func13, Try.ntmps13
    go_wp2_with (go_at_call 28; refine (in_any _ _ _ _).mono ?_; rintro e w' ⟨rfl, rfl⟩; rw [H0.out])
    go_ret
    exact ⟨ret_b HV.out.symm, HB.out.2⟩
  · have H0 := Lib.hid h0
    have hp := in_of h0
    clear h0
    cases hok : flOk l
    · have HOK := Lib.hid hok
      have HV := Lib.hid (bb_no1 (p := p) (r := r) (f := f) (s := s) (t := t) hok)
      clear hok
      go_enter Try.func13, Try.ntmps13
      go_wp2_with (go_at_call 28; refine (in_any _ _ _ _).mono ?_; rintro e w' ⟨rfl, rfl⟩; rw [H0.out])
      refine (fl_spec _ _ _ _ (H.out.kept HB.out.2) hl0).mono ?_
      rintro e w1 ⟨rfl, hg⟩
      have H1 := Lib.hid (And.intro (grownBy_trans HB.out.2 hg) (HB.out.1.keep hg))
      clear hg
      have b0 := (H1.out.2).c 0 rfl
      have b1 := (H1.out.2).c 1 rfl
      have b2 := (H1.out.2).c 2 rfl
      have b3 := (H1.out.2).c 3 rfl
      have b4 := (H1.out.2).c 4 rfl
      have b5 := (H1.out.2).c 5 rfl
      rw [HOK.out]
      go_wp2_with fail
      go_ret
      exact ⟨ret_b HV.out.symm, H1.out.1⟩
    · have HOK := Lib.hid hok
      cases hr : inB r 1 60000
      · have HR := Lib.hid hr
        have HV := Lib.hid (bb_no2 (p := p) (l := l) (f := f) (s := s) (t := t) hr)
        clear hok hr
        go_enter Try.func13, Try.ntmps13
        go_wp2_with (go_at_call 28; refine (in_any _ _ _ _).mono ?_; rintro e w' ⟨rfl, rfl⟩; rw [H0.out])
        refine (fl_spec _ _ _ _ (H.out.kept HB.out.2) hl0).mono ?_
        rintro e w1 ⟨rfl, hg⟩
        have H1 := Lib.hid (And.intro (grownBy_trans HB.out.2 hg) (HB.out.1.keep hg))
        clear hg
        have b0 := (H1.out.2).c 0 rfl
        have b1 := (H1.out.2).c 1 rfl
        have b2 := (H1.out.2).c 2 rfl
        have b3 := (H1.out.2).c 3 rfl
        have b4 := (H1.out.2).c 4 rfl
        have b5 := (H1.out.2).c 5 rfl
        rw [HOK.out]
        go_wp2_with (go_at_call 28; refine (in_any _ _ _ _).mono ?_; rintro e w' ⟨rfl, rfl⟩; rw [HR.out])
        go_ret
        exact ⟨ret_b HV.out.symm, H1.out.1⟩
      · have HR := Lib.hid hr
        cases hf : inB f 0 1000000000
        · have HF := Lib.hid hf
          have HV := Lib.hid (bb_no3 (p := p) (l := l) (r := r) (s := s) (t := t) hf)
          clear hok hr hf
          go_enter Try.func13, Try.ntmps13
          go_wp2_with (go_at_call 28; refine (in_any _ _ _ _).mono ?_; rintro e w' ⟨rfl, rfl⟩; rw [H0.out])
          refine (fl_spec _ _ _ _ (H.out.kept HB.out.2) hl0).mono ?_
          rintro e w1 ⟨rfl, hg⟩
          have H1 := Lib.hid (And.intro (grownBy_trans HB.out.2 hg) (HB.out.1.keep hg))
          clear hg
          have b0 := (H1.out.2).c 0 rfl
          have b1 := (H1.out.2).c 1 rfl
          have b2 := (H1.out.2).c 2 rfl
          have b3 := (H1.out.2).c 3 rfl
          have b4 := (H1.out.2).c 4 rfl
          have b5 := (H1.out.2).c 5 rfl
          rw [HOK.out]
          go_wp2_with (go_at_call 28; refine (in_any _ _ _ _).mono ?_; rintro e w' ⟨rfl, rfl⟩; first | rw [HR.out] | rw [HF.out])
          go_ret
          exact ⟨ret_b HV.out.symm, H1.out.1⟩
        · have HF := Lib.hid hf
          cases ht : inB t 0 7
          · have HT := Lib.hid ht
            have HV := Lib.hid (bb_no4 (l := l) (r := r) (f := f) (show phB p s t l.length = false from decide_eq_false (fun h => in_not ht (by omega))))
            clear hok hr hf ht
            go_enter Try.func13, Try.ntmps13
            go_wp2_with (go_at_call 28; refine (in_any _ _ _ _).mono ?_; rintro e w' ⟨rfl, rfl⟩; rw [H0.out])
            refine (fl_spec _ _ _ _ (H.out.kept HB.out.2) hl0).mono ?_
            rintro e w1 ⟨rfl, hg⟩
            have H1 := Lib.hid (And.intro (grownBy_trans HB.out.2 hg) (HB.out.1.keep hg))
            clear hg
            have b0 := (H1.out.2).c 0 rfl
            have b1 := (H1.out.2).c 1 rfl
            have b2 := (H1.out.2).c 2 rfl
            have b3 := (H1.out.2).c 3 rfl
            have b4 := (H1.out.2).c 4 rfl
            have b5 := (H1.out.2).c 5 rfl
            rw [HOK.out]
            go_wp2_with (go_at_call 28; refine (in_any _ _ _ _).mono ?_; rintro e w' ⟨rfl, rfl⟩; first | rw [HR.out] | rw [HF.out] | rw [HT.out])
            go_ret
            exact ⟨ret_b HV.out.symm, H1.out.1⟩
          · have HT := Lib.hid ht
            have ht2 := in_of ht
            have HV := Lib.hid (bb_yes (p := p) (s := s) (t := t) hok hr hf)
            clear hok hr hf ht
            have hpp : p = 1 ∨ p = 2 ∨ p = 3 := by omega
            rcases hpp with rfl | rfl | rfl
            all_goals
              by_cases s3 : s = 3
              · subst s3
                have s3b : inB 3 0 2 = false := by decide
                by_cases t0 : t = 0
                · subst t0
                  go_enter Try.func13, Try.ntmps13
                  go_wp2_with (go_at_call 28; refine (in_any _ _ _ _).mono ?_; rintro e w' ⟨rfl, rfl⟩; rw [H0.out])
                  refine (fl_spec _ _ _ _ (H.out.kept HB.out.2) hl0).mono ?_
                  rintro e w1 ⟨rfl, hg⟩
                  have H1 := Lib.hid (And.intro (grownBy_trans HB.out.2 hg) (HB.out.1.keep hg))
                  clear hg
                  have b0 := (H1.out.2).c 0 rfl
                  have b1 := (H1.out.2).c 1 rfl
                  have b2 := (H1.out.2).c 2 rfl
                  have b3 := (H1.out.2).c 3 rfl
                  have b4 := (H1.out.2).c 4 rfl
                  have b5 := (H1.out.2).c 5 rfl
                  rw [HOK.out]
                  go_wp2_with (go_at_call 28; refine (in_any _ _ _ _).mono ?_; rintro e w' ⟨rfl, rfl⟩; first | rw [HR.out] | rw [HF.out] | rw [HT.out] | rw [s3b])
                  all_goals
                    go_ret
                    refine ⟨ret_b ?_, H1.out.1⟩
                    rw [HV.out]
                    first | rfl | (simp only [phB]; rw [Bool.eq_iff_iff]; simp; omega) | (simp only [phB]; rw [Bool.eq_iff_iff]; simp) | (simp [phB]; omega)
                · have t0b : (t == 0) = false := beq_false_of_ne t0
                  go_enter Try.func13, Try.ntmps13
                  go_wp2_with (go_at_call 28; refine (in_any _ _ _ _).mono ?_; rintro e w' ⟨rfl, rfl⟩; rw [H0.out])
                  refine (fl_spec _ _ _ _ (H.out.kept HB.out.2) hl0).mono ?_
                  rintro e w1 ⟨rfl, hg⟩
                  have H1 := Lib.hid (And.intro (grownBy_trans HB.out.2 hg) (HB.out.1.keep hg))
                  clear hg
                  have b0 := (H1.out.2).c 0 rfl
                  have b1 := (H1.out.2).c 1 rfl
                  have b2 := (H1.out.2).c 2 rfl
                  have b3 := (H1.out.2).c 3 rfl
                  have b4 := (H1.out.2).c 4 rfl
                  have b5 := (H1.out.2).c 5 rfl
                  rw [HOK.out]
                  go_wp2_with (go_at_call 28; refine (in_any _ _ _ _).mono ?_; rintro e w' ⟨rfl, rfl⟩; first | rw [HR.out] | rw [HF.out] | rw [HT.out] | rw [s3b])
                  all_goals
                    go_ret
                    refine ⟨ret_b ?_, H1.out.1⟩
                    rw [HV.out]
                    first | rfl | (simp only [phB]; rw [Bool.eq_iff_iff]; simp; omega) | (simp only [phB]; rw [Bool.eq_iff_iff]; simp) | (simp [phB]; omega)
              · have s3b : (s == 3) = false := beq_false_of_ne s3
                cases hs : inB s 0 2
                all_goals
                  have HS := Lib.hid hs
                  have hs2 : (0 ≤ s ∧ s ≤ 2) ∨ ¬ (0 ≤ s ∧ s ≤ 2) := by omega
                  have HS2 := Lib.hid (show inB s 0 2 = decide (0 ≤ s ∧ s < 3 ) from by unfold inB; rw [Bool.eq_iff_iff]; simp; omega)
                  have HS3 := Lib.hid (HS2.out.symm.trans hs)
                  clear hs hs2
                  go_enter Try.func13, Try.ntmps13
                  go_wp2_with (go_at_call 28; refine (in_any _ _ _ _).mono ?_; rintro e w' ⟨rfl, rfl⟩; rw [H0.out])
                  refine (fl_spec _ _ _ _ (H.out.kept HB.out.2) hl0).mono ?_
                  rintro e w1 ⟨rfl, hg⟩
                  have H1 := Lib.hid (And.intro (grownBy_trans HB.out.2 hg) (HB.out.1.keep hg))
                  clear hg
                  have b0 := (H1.out.2).c 0 rfl
                  have b1 := (H1.out.2).c 1 rfl
                  have b2 := (H1.out.2).c 2 rfl
                  have b3 := (H1.out.2).c 3 rfl
                  have b4 := (H1.out.2).c 4 rfl
                  have b5 := (H1.out.2).c 5 rfl
                  rw [HOK.out]
                  go_wp2_with (go_at_call 28; refine (in_any _ _ _ _).mono ?_; rintro e w' ⟨rfl, rfl⟩; first | rw [HR.out] | rw [HF.out] | rw [HT.out] | rw [HS.out])
                  all_goals
                    go_ret
                    refine ⟨ret_b ?_, H1.out.1⟩
                    rw [HV.out]
                    have hz := HS3.out
                    simp only [decide_eq_true_eq, decide_eq_false_iff_not] at hz
                    first | (simp only [phB]; rw [Bool.eq_iff_iff]; simp; omega) | (simp only [phB]; rw [Bool.eq_iff_iff]; simp) | (simp [phB]; omega)

end Go.Proofs.Yteomllgkcolmhaa
