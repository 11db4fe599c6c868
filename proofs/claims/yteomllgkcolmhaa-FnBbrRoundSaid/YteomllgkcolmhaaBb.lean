/- States of pipes: which are right, what a pipe holds, the window, a new one; both. -/
import Derived.Test.YteomllgkcolmhaaFlD
namespace Go.Proofs.Yteomllgkcolmhaa
open Go.RowKit

abbrev bbC (p : Int) (a : Option Addr) (n c : Nat) (r f s t : Int) : Array Value := #[.int .i64 p, .slice a n c, .int .i64 r, .int .i64 f, .int .i64 s, .int .i64 t]
abbrev bbV (p : Int) (a : Option Addr) (n c : Nat) (r f s t : Int) : Value := .agg #[.int .i64 p, .slice a n c, .int .i64 r, .int .i64 f, .int .i64 s, .int .i64 t]
def phB (p s t : Int) (n : Nat) : Bool := decide ((p = 1 ∧ 0 ≤ s ∧ s < 3 ∧ t = 0) ∨ (p = 2 ∧ s = 3 ∧ 0 < n ∧ t = 0) ∨ (p = 3 ∧ s = 3 ∧ 0 < n ∧ 0 ≤ t ∧ t < 8))
def bbOk (p : Int) (l : List Rg) (r f s t : Int) : Bool := flOk l && (inB r 1 60000 && (inB f 0 1000000000 && phB p s t l.length))
theorem bb_no1 {p : Int} {l : List Rg} {r f s t : Int} (h : flOk l = false) : bbOk p l r f s t = false := by simp [bbOk, h]
theorem bb_no2 {p : Int} {l : List Rg} {r f s t : Int} (h : inB r 1 60000 = false) : bbOk p l r f s t = false := by simp [bbOk, h]
theorem bb_no3 {p : Int} {l : List Rg} {r f s t : Int} (h : inB f 0 1000000000 = false) : bbOk p l r f s t = false := by simp [bbOk, h]
theorem bb_no4 {p : Int} {l : List Rg} {r f s t : Int} (h : phB p s t l.length = false) : bbOk p l r f s t = false := by simp [bbOk, h]
theorem bb_yes {p : Int} {l : List Rg} {r f s t : Int} (h1 : flOk l = true) (h2 : inB r 1 60000 = true) (h3 : inB f 0 1000000000 = true) : bbOk p l r f s t = phB p s t l.length := by simp [bbOk, h1, h2, h3]
theorem bb_of {p : Int} {l : List Rg} {r f s t : Int} (h : bbOk p l r f s t = true) : flP l ∧ (1 ≤ r ∧ r ≤ 60000) ∧ (0 ≤ f ∧ f ≤ 1000000000) ∧ ((p = 1 ∧ 0 ≤ s ∧ s < 3 ∧ t = 0) ∨ (p = 2 ∧ s = 3 ∧ 0 < l.length ∧ t = 0) ∨ (p = 3 ∧ s = 3 ∧ 0 < l.length ∧ 0 ≤ t ∧ t < 8)) := by
  unfold bbOk phB at h
  simp only [Bool.and_eq_true] at h
  exact ⟨fl_of h.1, in_of h.2.1, in_of h.2.2.1, of_decide_eq_true h.2.2.2⟩
def rateF (l : List Rg) : Int := if bestF l < 0 then 0 else bestF l
def pipeF (l : List Rg) (r : Int) : Int := rateF l * r / 1000
def thF (p t : Int) : Int := if p = 1 then 2885 else if p = 2 then 347 else if t = 0 then 1250 else if t = 1 then 750 else 1000
noncomputable def winF (p : Int) (l : List Rg) (r f s t : Int) : Int := if bbOk p l r f s t = true then pipeF l r * thF p t / 1000 + 4 else -1
theorem th_bd (p t : Int) : 0 ≤ thF p t ∧ thF p t ≤ 2885 := by
  unfold thF
  repeat' split
  all_goals omega
theorem rate_bd (l : List Rg) : 0 ≤ rateF l ∧ rateF l ≤ 1000000000 := by
  unfold rateF
  cases l with
  | nil => simp [bestF]
  | cons x l =>
    by_cases h : flP (x :: l)
    · have := h.2.1 x (List.mem_cons_self ..)
      obtain ⟨h1, h2, h3, h4⟩ := this
      rw [bestF, fl_yes h]
      simp only [if_true]
      split <;> omega
    · rw [bestF_no h]; simp
theorem pipe_bd (l : List Rg) (r : Int) (h : 1 ≤ r ∧ r ≤ 60000) : 0 ≤ pipeF l r ∧ pipeF l r ≤ 60000000000 ∧ 0 ≤ rateF l * r ∧ rateF l * r ≤ 60000000000000 := by
  obtain ⟨h1, h2⟩ := rate_bd l
  have h3 : 0 ≤ rateF l * r := Int.mul_nonneg h1 (by omega)
  have h4 : rateF l * r ≤ 1000000000 * 60000 := Int.mul_le_mul h2 h.2 (by omega) (by omega)
  unfold pipeF
  omega
theorem rate_at {l : List Rg} (h : flP l) (h0 : 0 < l.length) : rateF l = (l[0]).2 := by
  have := h.2.1 _ (List.getElem_mem h0)
  obtain ⟨h1, h2, h3, h4⟩ := this
  unfold rateF
  rw [bestF_yes h h0, if_neg (by omega)]
theorem wq {v : Int} (h : -9000000000000000000 ≤ v ∧ v ≤ 9000000000000000000) : IntKind.i64.wrap v = v := IntWalk.i64_in _ (by omega)

set_option maxRecDepth 100000 in
set_option maxHeartbeats 2000000 in
theorem bb_ok_impl (p : Int) (a : Option Addr) (c : Nat) (l : List Rg) (r f s t : Int) (w : World) (h : RgAt w a l) (hl0 : (l.length : Int) ≤ 9223372036854775807) : Calls Try.prog 12 #[bbV p a l.length c r f s t] w fun e w' => e = .returned (.bool (bbOk p l r f s t)) ∧ w.grownBy w' none := by
  have H := Lib.hid h
  have HB := Lib.hid (And.intro (Bx.new w 26 (bbC p a l.length c r f s t)) (World.grownBy_alloc w (.cells (bbC p a l.length c r f s t) 26) none))
  clear h
  have b00 := HB.out.1.c 1 rfl
  cases hok : flOk l
  · have HOK := Lib.hid hok
    have HV := Lib.hid (bb_no1 (p := p) (r := r) (f := f) (s := s) (t := t) hok)
    clear hok
    go_enter Try.func12, Try.ntmps12
    go_wp2_with fail
    refine (fl_impl _ _ _ _ (H.out.kept HB.out.2) hl0).mono ?_
    rintro e w1 ⟨rfl, hg⟩
    have H1 := Lib.hid (And.intro (grownBy_trans HB.out.2 hg) (HB.out.1.keep hg))
    clear hg
    have b0 := (H1.out.2).c 0 rfl
    have b1 := (H1.out.2).c 1 rfl
    have b2 := (H1.out.2).c 2 rfl
    have b3 := (H1.out.2).c 3 rfl
    have b4 := (H1.out.2).c 4 rfl
    have b5 := (H1.out.2).c 5 rfl
    rw [HOK.out]
    go_wp2_with fail
    go_ret
    exact ⟨ret_b HV.out.symm, H1.out.1⟩
  · have HOK := Lib.hid hok
    cases hr : inB r 1 60000
    · have HR := Lib.hid hr
      have HV := Lib.hid (bb_no2 (p := p) (l := l) (f := f) (s := s) (t := t) hr)
      clear hok hr
      go_enter Try.func12, Try.ntmps12
      go_wp2_with fail
      refine (fl_impl _ _ _ _ (H.out.kept HB.out.2) hl0).mono ?_
      rintro e w1 ⟨rfl, hg⟩
      have H1 := Lib.hid (And.intro (grownBy_trans HB.out.2 hg) (HB.out.1.keep hg))
      clear hg
      have b0 := (H1.out.2).c 0 rfl
      have b1 := (H1.out.2).c 1 rfl
      have b2 := (H1.out.2).c 2 rfl
      have b3 := (H1.out.2).c 3 rfl
      have b4 := (H1.out.2).c 4 rfl
      have b5 := (H1.out.2).c 5 rfl
      rw [HOK.out]
      go_wp2_with (go_at_call 21; refine (trip_any _ _).mono ?_; rintro e w' ⟨rfl, rfl⟩; rw [HR.out])
      go_ret
      exact ⟨ret_b HV.out.symm, H1.out.1⟩
    · have HR := Lib.hid hr
      cases hf : inB f 0 1000000000
      · have HF := Lib.hid hf
        have HV := Lib.hid (bb_no3 (p := p) (l := l) (r := r) (s := s) (t := t) hf)
        clear hok hr hf
        go_enter Try.func12, Try.ntmps12
        go_wp2_with fail
        refine (fl_impl _ _ _ _ (H.out.kept HB.out.2) hl0).mono ?_
        rintro e w1 ⟨rfl, hg⟩
        have H1 := Lib.hid (And.intro (grownBy_trans HB.out.2 hg) (HB.out.1.keep hg))
        clear hg
        have b0 := (H1.out.2).c 0 rfl
        have b1 := (H1.out.2).c 1 rfl
        have b2 := (H1.out.2).c 2 rfl
        have b3 := (H1.out.2).c 3 rfl
        have b4 := (H1.out.2).c 4 rfl
        have b5 := (H1.out.2).c 5 rfl
        rw [HOK.out]
        go_wp2_with (first | (go_at_call 21; refine (trip_any _ _).mono ?_; rintro e w' ⟨rfl, rfl⟩; rw [HR.out]) | (go_at_call 22; refine (upto_any _ _).mono ?_; rintro e w' ⟨rfl, rfl⟩; rw [HF.out]))
        go_ret
        exact ⟨ret_b HV.out.symm, H1.out.1⟩
      · have HF := Lib.hid hf
        have HV := Lib.hid (bb_yes (p := p) (s := s) (t := t) hok hr hf)
        clear hok hr hf
        by_cases p1 : p = 1
        · subst p1
          go_enter Try.func12, Try.ntmps12
          go_wp2_with fail
          refine (fl_impl _ _ _ _ (H.out.kept HB.out.2) hl0).mono ?_
          rintro e w1 ⟨rfl, hg⟩
          have H1 := Lib.hid (And.intro (grownBy_trans HB.out.2 hg) (HB.out.1.keep hg))
          clear hg
          have b0 := (H1.out.2).c 0 rfl
          have b1 := (H1.out.2).c 1 rfl
          have b2 := (H1.out.2).c 2 rfl
          have b3 := (H1.out.2).c 3 rfl
          have b4 := (H1.out.2).c 4 rfl
          have b5 := (H1.out.2).c 5 rfl
          rw [HOK.out]
          go_wp2_with (first | (go_at_call 21; refine (trip_any _ _).mono ?_; rintro e w' ⟨rfl, rfl⟩; rw [HR.out]) | (go_at_call 22; refine (upto_any _ _).mono ?_; rintro e w' ⟨rfl, rfl⟩; rw [HF.out]))
          all_goals
            go_ret
            refine ⟨ret_b ?_, H1.out.1⟩
            rw [HV.out]
            first | rfl | (simp only [phB]; rw [Bool.eq_iff_iff]; simp; omega) | (simp only [phB]; rw [Bool.eq_iff_iff]; simp) | (simp [phB]; omega)
        · by_cases p2 : p = 2
          · subst p2
            go_enter Try.func12, Try.ntmps12
            go_wp2_with fail
            refine (fl_impl _ _ _ _ (H.out.kept HB.out.2) hl0).mono ?_
            rintro e w1 ⟨rfl, hg⟩
            have H1 := Lib.hid (And.intro (grownBy_trans HB.out.2 hg) (HB.out.1.keep hg))
            clear hg
            have b0 := (H1.out.2).c 0 rfl
            have b1 := (H1.out.2).c 1 rfl
            have b2 := (H1.out.2).c 2 rfl
            have b3 := (H1.out.2).c 3 rfl
            have b4 := (H1.out.2).c 4 rfl
            have b5 := (H1.out.2).c 5 rfl
            rw [HOK.out]
            go_wp2_with (first | (go_at_call 21; refine (trip_any _ _).mono ?_; rintro e w' ⟨rfl, rfl⟩; rw [HR.out]) | (go_at_call 22; refine (upto_any _ _).mono ?_; rintro e w' ⟨rfl, rfl⟩; rw [HF.out]))
            all_goals
              go_ret
              refine ⟨ret_b ?_, H1.out.1⟩
              rw [HV.out]
              first | rfl | (simp only [phB]; rw [Bool.eq_iff_iff]; simp; omega) | (simp only [phB]; rw [Bool.eq_iff_iff]; simp) | (simp [phB]; omega)
          · by_cases p3 : p = 3
            · subst p3
              by_cases s3 : s = 3
              · subst s3
                go_enter Try.func12, Try.ntmps12
                go_wp2_with fail
                refine (fl_impl _ _ _ _ (H.out.kept HB.out.2) hl0).mono ?_
                rintro e w1 ⟨rfl, hg⟩
                have H1 := Lib.hid (And.intro (grownBy_trans HB.out.2 hg) (HB.out.1.keep hg))
                clear hg
                have b0 := (H1.out.2).c 0 rfl
                have b1 := (H1.out.2).c 1 rfl
                have b2 := (H1.out.2).c 2 rfl
                have b3 := (H1.out.2).c 3 rfl
                have b4 := (H1.out.2).c 4 rfl
                have b5 := (H1.out.2).c 5 rfl
                rw [HOK.out]
                go_wp2_with (first | (go_at_call 21; refine (trip_any _ _).mono ?_; rintro e w' ⟨rfl, rfl⟩; rw [HR.out]) | (go_at_call 22; refine (upto_any _ _).mono ?_; rintro e w' ⟨rfl, rfl⟩; rw [HF.out]))
                all_goals
                  go_ret
                  refine ⟨ret_b ?_, H1.out.1⟩
                  rw [HV.out]
                  first | rfl | (simp only [phB]; rw [Bool.eq_iff_iff]; simp; omega) | (simp only [phB]; rw [Bool.eq_iff_iff]; simp) | (simp [phB]; omega)
              · have q4 : (s == 3) = false := beq_false_of_ne s3
                go_enter Try.func12, Try.ntmps12
                go_wp2_with fail
                refine (fl_impl _ _ _ _ (H.out.kept HB.out.2) hl0).mono ?_
                rintro e w1 ⟨rfl, hg⟩
                have H1 := Lib.hid (And.intro (grownBy_trans HB.out.2 hg) (HB.out.1.keep hg))
                clear hg
                have b0 := (H1.out.2).c 0 rfl
                have b1 := (H1.out.2).c 1 rfl
                have b2 := (H1.out.2).c 2 rfl
                have b3 := (H1.out.2).c 3 rfl
                have b4 := (H1.out.2).c 4 rfl
                have b5 := (H1.out.2).c 5 rfl
                rw [HOK.out]
                go_wp2_with (first | (go_at_call 21; refine (trip_any _ _).mono ?_; rintro e w' ⟨rfl, rfl⟩; rw [HR.out]) | (go_at_call 22; refine (upto_any _ _).mono ?_; rintro e w' ⟨rfl, rfl⟩; rw [HF.out]))
                all_goals
                  go_ret
                  refine ⟨ret_b ?_, H1.out.1⟩
                  rw [HV.out]
                  first | rfl | (simp only [phB]; rw [Bool.eq_iff_iff]; simp; omega) | (simp only [phB]; rw [Bool.eq_iff_iff]; simp) | (simp [phB]; omega)
            · have q1 : (p == 1) = false := beq_false_of_ne p1
              have q2 : (p == 2) = false := beq_false_of_ne p2
              have q3 : (p == 3) = false := beq_false_of_ne p3
              go_enter Try.func12, Try.ntmps12
              go_wp2_with fail
              refine (fl_impl _ _ _ _ (H.out.kept HB.out.2) hl0).mono ?_
              rintro e w1 ⟨rfl, hg⟩
              have H1 := Lib.hid (And.intro (grownBy_trans HB.out.2 hg) (HB.out.1.keep hg))
              clear hg
              have b0 := (H1.out.2).c 0 rfl
              have b1 := (H1.out.2).c 1 rfl
              have b2 := (H1.out.2).c 2 rfl
              have b3 := (H1.out.2).c 3 rfl
              have b4 := (H1.out.2).c 4 rfl
              have b5 := (H1.out.2).c 5 rfl
              rw [HOK.out]
              go_wp2_with (first | (go_at_call 21; refine (trip_any _ _).mono ?_; rintro e w' ⟨rfl, rfl⟩; rw [HR.out]) | (go_at_call 22; refine (upto_any _ _).mono ?_; rintro e w' ⟨rfl, rfl⟩; rw [HF.out]))
              all_goals
                go_ret
                refine ⟨ret_b ?_, H1.out.1⟩
                rw [HV.out, phB, eq_comm, decide_eq_false_iff_not]
                omega

end Go.Proofs.Yteomllgkcolmhaa
