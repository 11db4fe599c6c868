/- Cubes: windows by the cube, the drawings. -/
import Derived.Test.YtaemjijkolnheaaCbR
import Derived.Test.YtaemjijkolnheaaDraw
import Derived.Test.YtaemjijkolnheaaOffW
namespace Go.Proofs.Ytaemjijkolnheaa
open Go.RowKit

theorem cr_k {w k : Int} (h : CR (w * 3 / 4) k) (h1 : w ≤ 1000000000) : 0 ≤ k ∧ k ≤ 1000 := by
  have := h.top (x := 1000) (by omega) (by show w * 3 / 4 < 1001 * 1001 * 1001; omega)
  exact ⟨h.1, this⟩
theorem kis_cr {w k : Int} (h : KIs w k) (h0 : 0 ≤ w ∧ w ≤ 1000000000) : CR (w * 3 / 4) k := by
  rcases h with ⟨_, _, h⟩ | ⟨h, _⟩
  · exact h
  · exact absurd h0 h

set_option maxRecDepth 100000 in
set_option maxHeartbeats 2000000 in
theorem cb_wI (w t : Int) (W : World) : Calls Try.prog 14 #[.int .i64 w, .int .i64 t] W fun e w' => (∃ r, e = .returned (.int .i64 r) ∧ WIs w t r) ∧ W.grownBy w' none := by
  cases g : inB w 0 1000000000
  · have k := in_not g
    go_enter Try.func14, Try.ntmps14
    go_wp2_with (go_at_call 26; refine (cb_upto _ _).mono ?_; rintro e w' ⟨rfl, rfl⟩)
    go_ret
    exact ⟨⟨-1, rfl, .inr ⟨by omega, rfl⟩⟩, World.grownBy.refl _ _⟩
  · have k := in_of g
    by_cases q1 : t < 0
    · go_enter Try.func14, Try.ntmps14
      go_wp2_with (go_at_call 26; refine (cb_upto _ _).mono ?_; rintro e w' ⟨rfl, rfl⟩)
      go_ret
      exact ⟨⟨-1, rfl, .inr ⟨by omega, rfl⟩⟩, World.grownBy.refl _ _⟩
    · by_cases q2 : 10000 < t
      · go_enter Try.func14, Try.ntmps14
        go_wp2_with (go_at_call 26; refine (cb_upto _ _).mono ?_; rintro e w' ⟨rfl, rfl⟩)
        go_ret
        exact ⟨⟨-1, rfl, .inr ⟨by omega, rfl⟩⟩, World.grownBy.refl _ _⟩
      · go_enter Try.func14, Try.ntmps14
        go_wp2_with (go_at_call 26; refine (cb_upto _ _).mono ?_; rintro e w' ⟨rfl, rfl⟩)
        refine (cb_kI _ _).mono ?_
        rintro e w2 ⟨⟨r, rfl, hr⟩, hg⟩
        have hcr := kis_cr hr k
        have hrb := cr_k hcr k.2
        have HR := Lib.hid (And.intro hcr hg)
        clear hr hg hcr
        obtain ⟨d, hd⟩ : ∃ d, d = t - r := ⟨_, rfl⟩
        have hdb : -1000 ≤ d ∧ d ≤ 10000 := by omega
        have s1 : IntKind.i64.wrap (t - r) = d := by rw [hd]; exact IntWalk.i64_in _ (by omega)
        have hcb := cb_bd2 (x := d) (by omega) (by omega)
        have hcu := fun W => cb_cube d W (by omega)
        have HCU := Lib.hid hcu
        have HD := Lib.hid hd
        clear hcu hd hrb
        obtain ⟨c, hc⟩ : ∃ c, c = cb d := ⟨_, rfl⟩
        rw [← hc] at hcb
        have HC := Lib.hid hc
        have s2 : IntKind.i64.wrap (4 * c) = 4 * c := IntWalk.i64_in _ (by omega)
        have hct := fun W => cb_cut (4 * c) W (by omega)
        obtain ⟨y, hy⟩ : ∃ y, y = 4 * c / 10 := ⟨_, rfl⟩
        rw [← hy] at hct
        have HCT := Lib.hid hct
        have HY := Lib.hid hy
        have hyb : -4000000000000 ≤ y ∧ y ≤ 4000000000000 := by omega
        clear hct hy hcb
        have s3 : IntKind.i64.wrap (w + y) = w + y := IntWalk.i64_in _ (by omega)
        have HV := Lib.hid (show cwin w t r = if w + y < 0 then 0 else w + y by unfold cwin; rw [← HD.out, ← HC.out, ← HY.out])
        go_wp2_with fail
        refine (HCU.out _).mono ?_
        rintro e w3 ⟨rfl, rfl⟩
        rw [← hc]
        clear hc
        go_wp2_with fail
        refine (HCT.out _).mono ?_
        rintro e w4 ⟨rfl, rfl⟩
        by_cases q3 : w + y < 0
        · have q4 : ¬ 0 < w + y := by omega
          have q5 : w + y ≤ 0 := by omega
          have q6 : ¬ 0 ≤ w + y := by omega
          go_wp2_with fail
          go_ret
          exact ⟨⟨0, rfl, .inl ⟨k.1, k.2, by omega, by omega, r, HR.out.1, by rw [HV.out, if_pos (by omega)]⟩⟩, HR.out.2⟩
        · by_cases q4 : 0 < w + y
          · have q5 : ¬ w + y ≤ 0 := by omega
            have q6 : 0 ≤ w + y := by omega
            go_wp2_with fail
            go_ret
            exact ⟨⟨w + y, rfl, .inl ⟨k.1, k.2, by omega, by omega, r, HR.out.1, by rw [HV.out, if_neg (by omega)]⟩⟩, HR.out.2⟩
          · have q5 : w + y = 0 := by omega
            rw [q5] at s3
            go_wp2_with fail
            go_ret
            exact ⟨⟨0, rfl, .inl ⟨k.1, k.2, by omega, by omega, r, HR.out.1, by rw [HV.out, if_neg (by omega), q5]⟩⟩, HR.out.2⟩

set_option maxRecDepth 100000 in
set_option maxHeartbeats 2000000 in
theorem cb_wS (w t : Int) (W : World) : Calls Try.prog 16 #[.int .i64 w, .int .i64 t] W fun e w' => (∃ r, e = .returned (.int .i64 r) ∧ WIs w t r) ∧ w' = W := by
  cases g : inB w 0 1000000000
  · have k := in_not g
    go_enter Try.func16, Try.ntmps16
    go_wp2_with (go_at_call 24; refine (in_any _ _ _ _).mono ?_; rintro e w' ⟨rfl, rfl⟩)
    go_ret
    exact ⟨⟨-1, rfl, .inr ⟨by omega, rfl⟩⟩, rfl⟩
  · have k := in_of g
    cases g2 : inB t 0 10000
    · have k2 := in_not g2
      go_enter Try.func16, Try.ntmps16
      go_wp2_with (go_at_call 24; refine (in_any _ _ _ _).mono ?_; rintro e w' ⟨rfl, rfl⟩)
      go_ret
      exact ⟨⟨-1, rfl, .inr ⟨by omega, rfl⟩⟩, rfl⟩
    · have k2 := in_of g2
      obtain ⟨z1, z2, z3, z4⟩ := quarter k
      go_enter Try.func16, Try.ntmps16
      go_wp2_with (go_at_call 24; refine (in_any _ _ _ _).mono ?_; rintro e w' ⟨rfl, rfl⟩)
      refine (cb_l11 _ _ (by omega)).mono ?_
      rintro e w2 ⟨⟨r, rfl, hcr⟩, rfl⟩
      have hrb := cr_k hcr k.2
      have HR := Lib.hid hcr
      clear hcr z1 z2 z3 z4
      obtain ⟨d, hd⟩ : ∃ d, d = t - r := ⟨_, rfl⟩
      have hdb : -1000 ≤ d ∧ d ≤ 10000 := by omega
      have s1 : IntKind.i64.wrap (t - r) = d := by rw [hd]; exact IntWalk.i64_in _ (by omega)
      have hcb := cb_bd2 (x := d) (by omega) (by omega)
      have e2 : 4 * d * d = 4 * (d * d) := Int.mul_assoc _ _ _
      have e3 : 4 * (d * d) * d = 4 * cb d := Int.mul_assoc _ _ _
      have s2 : IntKind.i64.wrap (4 * d) = 4 * d := IntWalk.i64_in _ (by omega)
      have s3 : IntKind.i64.wrap (4 * d * d) = 4 * (d * d) := by rw [e2]; exact IntWalk.i64_in _ (by omega)
      obtain ⟨c, hc⟩ : ∃ c, c = 4 * cb d := ⟨_, rfl⟩
      have s4 : IntKind.i64.wrap (4 * (d * d) * d) = c := by rw [e3, hc]; exact IntWalk.i64_in _ (by omega)
      have hcb2 : -40000000000000 ≤ c ∧ c ≤ 40000000000000 := by omega
      obtain ⟨y, hy⟩ : ∃ y, y = c / 10 := ⟨_, rfl⟩
      have HV := Lib.hid (show cwin w t r = if w + y < 0 then 0 else w + y by unfold cwin; rw [← hd, ← hc, ← hy])
      have hyb : -4000000000000 ≤ y ∧ y ≤ 4000000000000 := by omega
      have s9 : IntKind.i64.wrap (w + y) = w + y := IntWalk.i64_in _ (by omega)
      by_cases qc : c < 0
      · have s5 : IntKind.i64.wrap (-c) = -c := IntWalk.i64_in _ (by omega)
        have s6 : IntKind.i64.wrap (-c + 9) = -c + 9 := IntWalk.i64_in _ (by omega)
        have s7 : IntKind.i64.wrap ((-c + 9).tdiv 10) = -y := by rw [Int.tdiv_eq_ediv_of_nonneg (by omega)]; exact (IntWalk.i64_in _ (by omega)).trans (by omega)
        have s8 : IntKind.i64.wrap (-(-y)) = y := (IntWalk.i64_in _ (by omega)).trans (by omega)
        have s10 : IntKind.i64.wrap y = y := IntWalk.i64_in _ (by omega)
        clear e2 e3 hcb hc hd hy
        by_cases q3 : w + y < 0
        · have q4 : ¬ 0 < w + y := by omega
          have q5 : w + y ≤ 0 := by omega
          have q6 : ¬ 0 ≤ w + y := by omega
          go_wp2_with fail
          go_ret
          exact ⟨⟨0, rfl, .inl ⟨k.1, k.2, k2.1, k2.2, r, HR.out, by rw [HV.out, if_pos (by omega)]⟩⟩, rfl⟩
        · by_cases q4 : 0 < w + y
          · have q5 : ¬ w + y ≤ 0 := by omega
            have q6 : 0 ≤ w + y := by omega
            go_wp2_with fail
            go_ret
            exact ⟨⟨w + y, rfl, .inl ⟨k.1, k.2, k2.1, k2.2, r, HR.out, by rw [HV.out, if_neg (by omega)]⟩⟩, rfl⟩
          · have q5 : w + y = 0 := by omega
            rw [q5] at s9
            go_wp2_with fail
            go_ret
            exact ⟨⟨0, rfl, .inl ⟨k.1, k.2, k2.1, k2.2, r, HR.out, by rw [HV.out, if_neg (by omega), q5]⟩⟩, rfl⟩
      · have s7 : IntKind.i64.wrap (c.tdiv 10) = y := by rw [Int.tdiv_eq_ediv_of_nonneg (by omega), hy]; exact IntWalk.i64_in _ (by omega)
        have q3 : ¬ w + y < 0 := by omega
        clear e2 e3 hcb hc hd hy
        by_cases q4 : 0 < w + y
        · have q5 : ¬ w + y ≤ 0 := by omega
          have q6 : 0 ≤ w + y := by omega
          go_wp2_with fail
          go_ret
          exact ⟨⟨w + y, rfl, .inl ⟨k.1, k.2, k2.1, k2.2, r, HR.out, by rw [HV.out, if_neg (by omega)]⟩⟩, rfl⟩
        · have q5 : w + y = 0 := by omega
          rw [q5] at s9
          go_wp2_with fail
          go_ret
          exact ⟨⟨0, rfl, .inl ⟨k.1, k.2, k2.1, k2.2, r, HR.out, by rw [HV.out, if_neg (by omega), q5]⟩⟩, rfl⟩

end Go.Proofs.Ytaemjijkolnheaa
