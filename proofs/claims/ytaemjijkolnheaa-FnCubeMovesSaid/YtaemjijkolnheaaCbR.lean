/- Cubes: the program's root by a closure that calls itself. -/
import Derived.Test.YtaemjijkolnheaaCb
import Derived.Laws.EntriesVeiled
import Derived.BigQuiet
import Derived.Deep.QuietTactic
namespace Go.Proofs.Ytaemjijkolnheaa
open Go.RowKit

/-- Where the closure's own variables stand: the number and the closure itself. -/
structure CbAt (W : World) (n : Int) (B F : Nat) : Prop where
  c : W.cell? ⟨B, 0, none⟩ = some (.int .i64 n)
  f : W.cell? ⟨F, 0, none⟩ = some (.func (.func 22) #[] #[.pointer (some ⟨B, 0, none⟩), .pointer (some ⟨F, 0, none⟩)])
theorem CbAt.drew {W : World} {n : Int} {B F : Nat} (h : CbAt W n B F) (k : Nat) : CbAt (W.drewN k) n B F := ⟨h.c, h.f⟩

set_option maxRecDepth 100000 in
set_option maxHeartbeats 2000000 in
theorem cb_within (n : Int) (B F : Nat) : ∀ (d : Nat) (a b : Int) (W : World), CbAt W n B F → 0 ≤ a → a ≤ b → b ≤ 1000000 → b - a ≤ d → cb a ≤ n → n < cb (b + 1) →
    Calls Try.prog 22 #[.int .i64 a, .int .i64 b, .pointer (some ⟨B, 0, none⟩), .pointer (some ⟨F, 0, none⟩)] W fun e w' => (∃ r, e = .returned (.int .i64 r) ∧ CR n r) ∧ ∃ k, w' = W.drewN k := by
  intro d
  induction d with
  | zero =>
    intro a b W h h0 hab hb hd hc hn
    obtain rfl : a = b := by omega
    go_enter Try.func22, Try.ntmps22
    go_wp2_with fail
    go_ret
    exact ⟨⟨a, rfl, h0, hc, hn⟩, 0, rfl⟩
  | succ d ih =>
    intro a b W h h0 hab hb hd hc hn
    by_cases q : a = b
    · subst q
      go_enter Try.func22, Try.ntmps22
      go_wp2_with fail
      go_ret
      exact ⟨⟨a, rfl, h0, hc, hn⟩, 0, rfl⟩
    · obtain ⟨m, hm⟩ : ∃ m, m = a + (b - a + 1) / 2 := ⟨_, rfl⟩
      have hm0 : a < m ∧ m ≤ b := by omega
      have s1 : IntKind.i64.wrap (b - a) = b - a := IntWalk.i64_in _ (by omega)
      have s2 : IntKind.i64.wrap (b - a + 1) = b - a + 1 := IntWalk.i64_in _ (by omega)
      have s3 : IntKind.i64.wrap ((b - a + 1).tdiv 2) = (b - a + 1) / 2 := by rw [Int.tdiv_eq_ediv_of_nonneg (by omega)]; exact IntWalk.i64_in _ (by omega)
      have s4 : IntKind.i64.wrap (a + (b - a + 1) / 2) = m := by rw [hm]; exact IntWalk.i64_in _ (by omega)
      have s5 : IntKind.i64.wrap (m - 1) = m - 1 := IntWalk.i64_in _ (by omega)
      clear hm
      have hcu := fun W => cb_cube m W (by omega)
      have hi1 := fun W k hh => ih a (m - 1) W k h0 (by omega) (by omega) (by omega) hc hh
      have hi2 := fun W k hh => ih m b W k (by omega) (by omega) hb (by omega) hh hn
      have HI1 := Lib.hid hi1
      have HI2 := Lib.hid hi2
      have HCU := Lib.hid hcu
      have c0 := h.c
      have f0 := h.f
      have HH := Lib.hid h
      clear hi1 hi2 hcu ih h hc hn
      by_cases q2 : n < cb m
      · have d0 : decide (n < cb m) = true := decide_eq_true q2
        go_enter Try.func22, Try.ntmps22
        go_wp2_with fail
        go_quiet ((go_at_call 23; exact Calls.quiet_of_same (HCU.out _)))
        go_wp2_with fail
        refine (HI1.out _ (HH.out.drew _) (by rw [show m - 1 + 1 = m by omega]; exact q2)).mono ?_
        rintro e w2 ⟨⟨r, rfl, hr⟩, k, rfl⟩
        have HR := Lib.hid hr
        clear hr
        go_wp2_with fail
        go_ret
        exact ⟨⟨r, rfl, HR.out⟩, by first | exact ⟨_, rfl⟩ | exact ⟨_, World.drewN_drewN _ _ _⟩⟩
      · have d0 : decide (n < cb m) = false := decide_eq_false q2
        go_enter Try.func22, Try.ntmps22
        go_wp2_with fail
        go_quiet ((go_at_call 23; exact Calls.quiet_of_same (HCU.out _)))
        go_wp2_with fail
        refine (HI2.out _ (HH.out.drew _) (by omega)).mono ?_
        rintro e w2 ⟨⟨r, rfl, hr⟩, k, rfl⟩
        have HR := Lib.hid hr
        clear hr
        go_wp2_with fail
        go_ret
        exact ⟨⟨r, rfl, HR.out⟩, by first | exact ⟨_, rfl⟩ | exact ⟨_, World.drewN_drewN _ _ _⟩⟩

theorem gA {w W : World} (h : w.grownBy W none) (o : Obj) : w.grownBy (W.alloc o) none := grownBy_trans h (World.grownBy_alloc _ _ _)
theorem gD {w W : World} (h : w.grownBy W none) (k : Nat) : w.grownBy (W.drewN k) none := grownBy_trans h (grownBy_drewN k)

set_option maxRecDepth 100000 in
set_option maxHeartbeats 2000000 in
theorem cb_rootI (n : Int) (W : World) : Calls Try.prog 11 #[.int .i64 n] W fun e w' => (∃ r, e = .returned (.int .i64 r) ∧ RootIs n r) ∧ W.grownBy w' none := by
  by_cases q : n < 0
  · go_enter Try.func11, Try.ntmps11
    go_wp2_with fail
    go_ret
    exact ⟨⟨-1, rfl, .inr ⟨by omega, rfl⟩⟩, gA (World.grownBy.refl _ _) _⟩
  · by_cases q2 : 1000000000000000000 < n
    · go_enter Try.func11, Try.ntmps11
      go_wp2_with fail
      go_ret
      exact ⟨⟨-1, rfl, .inr ⟨by omega, rfl⟩⟩, gA (World.grownBy.refl _ _) _⟩
    · have hw := fun B F W h => cb_within n B F 1000000 0 1000000 W h (by omega) (by omega) (by omega) (by omega) (by show (0 : Int) * 0 * 0 ≤ n; omega) (by show n < 1000001 * 1000001 * 1000001; omega)
      have HW := Lib.hid hw
      clear hw
      go_enter Try.func11, Try.ntmps11
      go_wp2_with fail
      refine (HW.out _ _ _ ⟨by go_simp, by go_simp⟩).mono ?_
      rintro e w2 ⟨⟨r, rfl, hr⟩, k, rfl⟩
      have HR := Lib.hid hr
      clear hr
      go_wp2_with fail
      go_ret
      exact ⟨⟨r, rfl, .inl ⟨by omega, by omega, HR.out⟩⟩, gD (gA (gA (World.grownBy.refl _ _) _) _) _⟩

set_option maxRecDepth 100000 in
set_option maxHeartbeats 2000000 in
theorem cb_rootS (n : Int) (W : World) : Calls Try.prog 12 #[.int .i64 n] W fun e w' => (∃ r, e = .returned (.int .i64 r) ∧ RootIs n r) ∧ w' = W := by
  cases g : inB n 0 1000000000000000000
  · have k := in_not g
    go_enter Try.func12, Try.ntmps12
    go_wp2_with (go_at_call 24; refine (in_any _ _ _ _).mono ?_; rintro e w' ⟨rfl, rfl⟩)
    go_ret
    exact ⟨⟨-1, rfl, .inr ⟨k, rfl⟩⟩, rfl⟩
  · have k := in_of g
    have HW := Lib.hid (fun W => cb_l11 n W k)
    go_enter Try.func12, Try.ntmps12
    go_wp2_with (go_at_call 24; refine (in_any _ _ _ _).mono ?_; rintro e w' ⟨rfl, rfl⟩)
    refine (HW.out _).mono ?_
    rintro e w2 ⟨⟨r, rfl, hr⟩, rfl⟩
    have HR := Lib.hid hr
    clear hr
    go_wp2_with fail
    go_ret
    exact ⟨⟨r, rfl, .inl ⟨k.1, k.2, HR.out⟩⟩, rfl⟩

set_option maxRecDepth 100000 in
set_option maxHeartbeats 1000000 in
theorem cb_upto (m : Int) (w : World) : Calls Try.prog 26 #[.int .i64 m] w fun e w' => e = .returned (.bool (inB m 0 1000000000)) ∧ w' = w := by
  go_enter Try.func26, Try.ntmps26
  go_wp2
  all_goals
    go_ret
    refine ⟨ret_b ?_, rfl⟩
    rw [Bool.eq_iff_iff]
    simp [inB]
    omega

theorem quarter {w : Int} (h : 0 ≤ w ∧ w ≤ 1000000000) : IntKind.i64.wrap (3 * w) = 3 * w ∧ IntKind.i64.wrap (w * 3) = w * 3 ∧ IntKind.i64.wrap ((3 * w).tdiv 4) = w * 3 / 4 ∧ IntKind.i64.wrap ((w * 3).tdiv 4) = w * 3 / 4 := by
  rw [Int.tdiv_eq_ediv_of_nonneg (by omega), Int.tdiv_eq_ediv_of_nonneg (by omega)]
  exact ⟨IntWalk.i64_in _ (by omega), IntWalk.i64_in _ (by omega), (IntWalk.i64_in _ (by omega)).trans (by omega), IntWalk.i64_in _ (by omega)⟩
theorem root_cr {n r : Int} (h : RootIs n r) (h0 : 0 ≤ n) (h1 : n ≤ 1000000000000000000) : CR n r := by
  rcases h with ⟨_, _, h⟩ | ⟨h, _⟩
  · exact h
  · exact absurd ⟨h0, h1⟩ h

set_option maxRecDepth 100000 in
set_option maxHeartbeats 2000000 in
theorem cb_kI (w : Int) (W : World) : Calls Try.prog 17 #[.int .i64 w] W fun e w' => (∃ r, e = .returned (.int .i64 r) ∧ KIs w r) ∧ W.grownBy w' none := by
  cases g : inB w 0 1000000000
  · have k := in_not g
    go_enter Try.func17, Try.ntmps17
    go_wp2_with (go_at_call 26; refine (cb_upto _ _).mono ?_; rintro e w' ⟨rfl, rfl⟩)
    go_ret
    exact ⟨⟨-1, rfl, .inr ⟨k, rfl⟩⟩, World.grownBy.refl _ _⟩
  · have k := in_of g
    obtain ⟨s1, s2, s3, s4⟩ := quarter k
    go_enter Try.func17, Try.ntmps17
    go_wp2_with (go_at_call 26; refine (cb_upto _ _).mono ?_; rintro e w' ⟨rfl, rfl⟩)
    refine (cb_rootI _ _).mono ?_
    rintro e w2 ⟨⟨r, rfl, hr⟩, hg⟩
    have HR := Lib.hid (And.intro hr hg)
    clear hr hg
    go_wp2_with fail
    go_ret
    exact ⟨⟨r, rfl, .inl ⟨k.1, k.2, root_cr HR.out.1 (by omega) (by omega)⟩⟩, HR.out.2⟩

set_option maxRecDepth 100000 in
set_option maxHeartbeats 2000000 in
theorem cb_kS (w : Int) (W : World) : Calls Try.prog 18 #[.int .i64 w] W fun e w' => (∃ r, e = .returned (.int .i64 r) ∧ KIs w r) ∧ w' = W := by
  cases g : inB w 0 1000000000
  · have k := in_not g
    go_enter Try.func18, Try.ntmps18
    go_wp2_with (go_at_call 24; refine (in_any _ _ _ _).mono ?_; rintro e w' ⟨rfl, rfl⟩)
    go_ret
    exact ⟨⟨-1, rfl, .inr ⟨k, rfl⟩⟩, rfl⟩
  · have k := in_of g
    obtain ⟨s1, s2, s3, s4⟩ := quarter k
    go_enter Try.func18, Try.ntmps18
    go_wp2_with (go_at_call 24; refine (in_any _ _ _ _).mono ?_; rintro e w' ⟨rfl, rfl⟩)
    refine (cb_l11 _ _ (by omega)).mono ?_
    rintro e w2 ⟨⟨r, rfl, hr⟩, rfl⟩
    have HR := Lib.hid hr
    clear hr
    go_wp2_with fail
    go_ret
    exact ⟨⟨r, rfl, .inl ⟨k.1, k.2, HR.out⟩⟩, rfl⟩

theorem tdiv_neg (x : Int) (h : x < 0) : x.tdiv 10 = -(-x / 10) := by
  have h1 : x = -(-x) := by omega
  conv => lhs; rw [h1, Int.neg_tdiv, Int.tdiv_eq_ediv_of_nonneg (by omega : 0 ≤ -x)]
theorem tmod_neg (x : Int) (h : x < 0) : x.tmod 10 = -(-x % 10) := by
  have h1 : x = -(-x) := by omega
  conv => lhs; rw [h1, Int.neg_tmod, Int.tmod_eq_emod_of_nonneg (by omega : 0 ≤ -x)]

set_option maxRecDepth 100000 in
set_option maxHeartbeats 2000000 in
theorem cb_cut (n : Int) (W : World) (h : -100000000000000 ≤ n ∧ n ≤ 100000000000000) : Calls Try.prog 27 #[.int .i64 n, .int .i64 10] W fun e w' => e = .returned (.int .i64 (n / 10)) ∧ w' = W := by
  obtain ⟨q, hq⟩ : ∃ q, q = n / 10 := ⟨_, rfl⟩
  rw [← hq]
  by_cases h0 : n < 0
  · have e1 := tdiv_neg n h0
    have e2 := tmod_neg n h0
    by_cases h1 : -n % 10 = 0
    · have s1 : IntKind.i64.wrap (n.tmod 10) = 0 := by rw [e2, h1]; rfl
      have s2 : IntKind.i64.wrap (n.tdiv 10) = q := by rw [e1]; exact (IntWalk.i64_in _ (by omega)).trans (by omega)
      have s3 : n.tmod 10 = 0 := by omega
      clear e1 e2 h1
      go_enter Try.func27, Try.ntmps27
      go_wp2
      go_ret
      exact ⟨by first | rfl | (rw [hq]; rfl), rfl⟩
    · obtain ⟨x, hx⟩ : ∃ x, x = n.tmod 10 := ⟨_, rfl⟩
      have x0 : x < 0 := by omega
      have s1 : IntKind.i64.wrap (n.tmod 10) = x := by rw [← hx]; exact IntWalk.i64_in _ (by omega)
      have s2 : IntKind.i64.wrap (n.tdiv 10) = q + 1 := by rw [e1]; exact (IntWalk.i64_in _ (by omega)).trans (by omega)
      have s4 : IntKind.i64.wrap (q + 1 - 1) = q := (IntWalk.i64_in _ (by omega)).trans (by omega)
      have s5 : IntKind.i64.wrap q = q := IntWalk.i64_in _ (by omega)
      clear e1 e2 h1
      go_enter Try.func27, Try.ntmps27
      go_wp2
      go_ret
      exact ⟨by first | rfl | (rw [hq]; rfl), rfl⟩
  · have e1 : n.tdiv 10 = n / 10 := Int.tdiv_eq_ediv_of_nonneg (by omega)
    have e2 : n.tmod 10 = n % 10 := Int.tmod_eq_emod_of_nonneg (by omega)
    obtain ⟨x, hx⟩ : ∃ x, x = n.tmod 10 := ⟨_, rfl⟩
    have x0 : ¬ x < 0 := by omega
    have s1 : IntKind.i64.wrap (n.tmod 10) = x := by rw [← hx]; exact IntWalk.i64_in _ (by omega)
    have s2 : IntKind.i64.wrap (n.tdiv 10) = q := by rw [e1]; exact (IntWalk.i64_in _ (by omega)).trans (by omega)
    clear e1 e2
    go_enter Try.func27, Try.ntmps27
    go_wp2
    go_ret
    exact ⟨by first | rfl | (rw [hq]; rfl), rfl⟩

end Go.Proofs.Ytaemjijkolnheaa
