/- Filters: the best of one, both. -/
import Derived.Test.YtljmllmkmjamoaaBxS
namespace Go.Proofs.Ytljmllmkmjamoaa
open Go.RowKit

set_option maxRecDepth 100000 in
set_option maxHeartbeats 1000000 in
theorem best_impl (a : Option Addr) (c : Nat) (l : List Rg) (w : World) (h : RgAt w a l) (hl0 : (l.length : Int) ≤ 9223372036854775807) : Calls Try.prog 8 #[.slice a l.length c] w fun e w' => e = .returned (.int .i64 (bestF l)) ∧ w.grownBy w' none := by
  have H := Lib.hid h
  clear h
  cases hok : flOk l
  · have HK := Lib.hid hok
    have HN := Lib.hid (bestF_no (fl_not hok))
    clear hok
    go_enter Try.func8, Try.ntmps8
    go_wp2_with fail
    refine (fl_impl _ _ _ _ H.out hl0).mono ?_
    rintro e w1 ⟨rfl, hg⟩
    rw [HK.out]
    have HG := Lib.hid hg
    clear hg
    go_wp2_with fail
    go_ret
    exact ⟨ret_i HN.out.symm, HG.out⟩
  · have HK := Lib.hid hok
    rcases Nat.eq_zero_or_pos l.length with h0 | h0
    · obtain rfl := List.length_eq_zero_iff.mp h0
      clear hok h0
      go_enter Try.func8, Try.ntmps8
      go_wp2_with fail
      refine (fl_impl _ _ [] _ H.out (by simp)).mono ?_
      rintro e w1 ⟨rfl, hg⟩
      rw [HK.out]
      have HG := Lib.hid hg
      clear hg
      go_wp2_with fail
      go_ret
      exact ⟨rfl, HG.out⟩
    · have HN := Lib.hid (bestF_yes (fl_of hok) h0)
      clear hok
      have h1 : ¬ (l.length : Int) = 0 := by omega
      have h2 : (0 : Int) < (l.length : Int) := by omega
      have h3 : ((l.length : Int) == 0) = false := beq_false_of_ne h1
      go_enter Try.func8, Try.ntmps8
      go_wp2_with fail
      refine (fl_impl _ _ _ _ H.out hl0).mono ?_
      rintro e w1 ⟨rfl, hg⟩
      rw [HK.out]
      have HG := Lib.hid hg
      clear hg
      rcases (H.out.kept HG.out) with hn | ⟨b, off, rfl, hb, hc⟩
      · rw [hn] at h0
        simp at h0
      · obtain ⟨c0, c1⟩ := hc 0 h0
        simp only [Nat.zero_mul, Nat.add_zero] at c0 c1
        clear hc
        generalize l[0] = x at *
        obtain ⟨t, r⟩ := x
        dsimp only at c0 c1
        go_wp2_with fail
        go_ret
        exact ⟨ret_i HN.out.symm, HG.out⟩

end Go.Proofs.Ytljmllmkmjamoaa
