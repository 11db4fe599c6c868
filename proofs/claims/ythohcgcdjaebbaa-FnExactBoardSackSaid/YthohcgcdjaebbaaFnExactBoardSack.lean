/- For every board and every row of ranges the law FnExactBoardSack answers true and leaves its arguments as they were; no condition. -/
import Derived.Test.YthohcgcdjaebbaaRows
import Derived.Test.YthohcgcdjaebbaaDraw
import Derived.Test.YthohcgcdjaebbaaBdY
import Derived.WalkKit
import Derived.ProofKit
import Derived.OpenShut
import Derived.ShutString
import Derived.ChangeOld
import Derived.Below
import Derived.Lib.SmallJoins
import Derived.Deep.SlicePairs
namespace Go.Proofs.Ythohcgcdjaebbaa.fnExactBoardSack
open Go.ChangeShapes Go.WideShapes Go.ChangeAt Go.RowKit Go.Joins
open Go.ChangeMaps (open_string shut_string)
set_option linter.unusedVariables false

theorem own : ownKnob Try.prog.godebug = none := by kernel_rfl
theorem laidOut : laidOutB Try.prog = true := by kernel_rfl
theorem cells46 : Try.prog.cellsOf 46 = 3 := by kernel_rfl
theorem cells75 : Try.prog.cellsOf 75 = 2 := by kernel_rfl

theorem dummy : True := trivial

set_option maxRecDepth 100000 in
set_option maxHeartbeats 1500000 in
theorem walk (a0_0 : Int) (a0_1 : Int) (a0_2 : Option Addr) (cap0_2 : Nat) (l0_2 : List Rg) (a1 : Option Addr) (cap1 : Nat) (l1 : List Rg) (w : World) (w0_0 : (Lit.int .i64 a0_0).wf = true) (w0_1 : (Lit.int .i64 a0_1).wf = true) (w0_2 : RgAt w a0_2 l0_2) (n0_2 : l0_2.length ≤ maxLen) (w1 : RgAt w a1 l1) (n1 : l1.length ≤ maxLen) :
    Calls Try.prog 11 #[.agg #[.int .i64 a0_0, .int .i64 a0_1, .slice a0_2 l0_2.length cap0_2], .slice a1 l1.length cap1] w fun e w' => e = .returned (.bool true) ∧ Below w.heap.size w w' := by
  have hl0 := n0_2
  have hl1 := n1
  unfold maxLen at hl0 hl1
  have hr1 := w1
  clear w1 n1
  obtain ⟨⟨U, N, L, D⟩, hr⟩ : ∃ r, sackL a0_0 a0_1 l0_2 l1 = r := ⟨_, rfl⟩
  have HR := Lib.hid hr
  have hL : L.length ≤ 40 := by have := sackL_len a0_0 a0_1 l0_2 l1; rw [hr] at this; exact this
  have hL2 : ¬ 1 + 2 * (L.length : Int) < 0 := by omega
  have hl2 : ¬ 1 + 2 * (l0_2.length : Int) < 0 := by omega
  clear hr
  have HM := Lib.hid (And.intro (bd_new w (.int .i64 a0_0) (.int .i64 a0_1) (.slice a0_2 l0_2.length cap0_2) 46) (And.intro w0_2 hl0))
  have HA1 := Lib.hid (And.intro hr1 hl1)
  clear w0_0 w0_1 w0_2 hl0 n0_2 hr1 hl1
  go_enter Try.func11, Try.ntmps11
  go_wp2_with fail
  refine (sz_board2 a0_0 a0_1 a0_2 cap0_2 l0_2 _ HM.out.2.2).mono ?_
  rintro e w1 ⟨⟨r, rfl, hr⟩, hg⟩
  have H1 := Lib.hid (And.intro (HM.out.1.kept hg) hr)
  clear hg hr
  obtain ⟨b0, b1, b2⟩ := bd_facts H1.out.1
  by_cases hr : r < 0
  · go_wp2_with fail
    go_ret
    exact ⟨rfl, below_new H1.out.1.grown⟩
  · obtain ⟨hB, hr2⟩ := H1.out.2 (by omega)
    have HB := Lib.hid hB
    clear hB
    go_wp2_with fail
    refine (sz_ranges2 _ _ _ _ _ HA1.out.2 (by omega) hr2).mono ?_
    rintro e w1b ⟨⟨r1, rfl, hr1⟩, rfl⟩
    by_cases hr3 : r1 < 0
    · go_wp2_with fail
      go_ret
      exact ⟨rfl, below_new H1.out.1.grown⟩
    have HB1 := Lib.hid (hr1 (by omega))
    have hl1m : l1.length ≤ 1048576 := HB1.out
    have hl0m : l0_2.length ≤ 1048576 := HB.out
    go_wp2_with fail
    refine (to_board a0_0 a0_1 a0_2 cap0_2 l0_2 _ (HM.out.2.1.kept H1.out.1.grown) HB.out).mono ?_
    rintro e w2 ⟨q2, rfl, hg, ho⟩
    have H2 := Lib.hid (And.intro (H1.out.1.kept hg) ho)
    clear hg ho H1 b0 b1 b2
    obtain ⟨b0, b1, b2⟩ := bd_facts H2.out.1
    have s2a : w.heap.size < w2.heap.size := cell_in b0
    go_wp2_with fail
    refine (to_ranges _ _ _ _ (HA1.out.1.kept H2.out.1.grown) HB1.out).mono ?_
    rintro e w2b ⟨rfl, hg, ho⟩
    have s2 : w.heap.size < w2b.heap.size := Nat.lt_of_lt_of_le s2a hg.size
    have H2b := Lib.hid (And.intro (H2.out.1.kept hg) (And.intro (own_kept H2.out.2 hg) ho))
    clear hg ho H2 b0 b1 b2
    obtain ⟨b0, b1, b2⟩ := bd_facts H2b.out.1
    go_wp2_with fail
    refine ((sack_spec _ _ _ _ _ _ _ _ _ (own_rowOk H2b.out.2.1) HM.out.2.2 (rg_own H2b.out.2.2) HA1.out.2).mono (fun _ _ h => bd_four HR.out h)).mono ?_
    rintro e w3 ⟨aw, cw, rfl, hg, ho⟩
    have s3 : w2b.heap.size ≤ w3.heap.size := hg.size
    have hW := bd_new w3 (.int .i64 U) (.int .i64 N) (.slice aw L.length cw) 26
    have e4 := alloc_size w3 (.cells #[.int .i64 U, .int .i64 N, .slice aw L.length cw] 26)
    have IW := Lib.hid (fun g e => ho.lt g e)
    have hm3 := H2b.out.1.kept hg
    have H4 := Lib.hid (And.intro ((hm3.kept hW.grown).app (hW.base hm3.grown)) (own_kept ho hW.grown))
    clear hg ho b0 b1 b2 hW
    obtain ⟨b0, b1, b2⟩ := bd_facts hm3
    have s23 : w.heap.size < w3.heap.size := by omega
    clear hm3 H2b
    have E4 := Lib.hid e4
    clear e4
    go_wp2_with fail
    generalize hw4 : w3.alloc (.cells #[.int .i64 U, .int .i64 N, .slice aw L.length cw] 26) = w4 at *
    clear hw4 b0 b1 b2
    have s4 := E4.out
    refine (to_board a0_0 a0_1 a0_2 cap0_2 l0_2 _ (HM.out.2.1.kept H4.out.1.grown) HB.out).mono ?_
    rintro e w5 ⟨qx, rfl, hg, ho⟩
    have s5 : w4.heap.size ≤ w5.heap.size := hg.size
    have hX := bd_new w5 (.int .i64 a0_0) (.int .i64 a0_1) (.slice (some ⟨qx, 0, none⟩) l0_2.length l0_2.length) 26
    have e6 := alloc_size w5 (.cells #[.int .i64 a0_0, .int .i64 a0_1, .slice (some ⟨qx, 0, none⟩) l0_2.length l0_2.length] 26)
    have IX := Lib.hid (fun g e => ho.lt g e)
    have hm5 := H4.out.1.kept hg
    have H6 := Lib.hid (And.intro ((hm5.kept hX.grown).app (hX.base hm5.grown)) (And.intro (own_kept (own_kept H4.out.2 hg) hX.grown) (own_kept ho hX.grown)))
    clear hg ho H4 hm5 hX
    have E6 := Lib.hid e6
    have S4 := Lib.hid s4
    clear e6 s4
    go_wp2_with fail
    generalize hw6 : w5.alloc (.cells #[.int .i64 a0_0, .int .i64 a0_1, .slice (some ⟨qx, 0, none⟩) l0_2.length l0_2.length] 26) = w6 at *
    clear hw6
    have s6 := E6.out
    have s4 := S4.out
    refine (to_ranges _ _ _ _ (HA1.out.1.kept H6.out.1.grown) HB1.out).mono ?_
    rintro e w6b ⟨rfl, hg, ho⟩
    have s6b : w6.heap.size ≤ w6b.heap.size := hg.size
    have IY := Lib.hid (fun g e => ho.lt g e)
    have HY := Lib.hid (And.intro (H6.out.1.kept hg) (And.intro (own_kept H6.out.2.1 hg) (And.intro (own_kept H6.out.2.2 hg) ho)))
    clear hg ho H6
    obtain ⟨x0, x1, x2⟩ := bd_facts HY.out.1.right
    have SE := Lib.hid (And.intro s6 s4)
    clear s6 s4
    go_wp2_with fail
    refine ((sack_impl _ _ _ _ _ _ _ _ _ (own_rowOk HY.out.2.2.1) (rg_own HY.out.2.2.2) HA1.out.2).mono (fun _ _ h => bd_four HR.out h)).mono ?_
    rintro e w7 ⟨ag, cg, rfl, hg, ho⟩
    clear x0 x1 x2
    obtain ⟨s6, s4⟩ := SE.out
    have s7 : w6b.heap.size ≤ w7.heap.size := hg.size
    have hG := bd_new w7 (.int .i64 U) (.int .i64 N) (.slice ag L.length cg) 26
    have e8 := alloc_size w7 (.cells #[.int .i64 U, .int .i64 N, .slice ag L.length cg] 26)
    have IG := Lib.hid (fun g e => ho.lt g e)
    have hm7 := HY.out.1.kept hg
    have H8 := Lib.hid (And.intro ((hm7.kept hG.grown).app (hG.base hm7.grown)) (And.intro (own_kept (own_kept HY.out.2.1 hg) hG.grown) (And.intro (own_kept (own_kept HY.out.2.2.1 hg) hG.grown) (And.intro (own_kept ho hG.grown) (own_kept (own_kept HY.out.2.2.2 hg) hG.grown)))))
    obtain ⟨v0, v1, v2⟩ := bd_facts hm7.left.right
    have s37 : w3.heap.size < w7.heap.size := by omega
    clear hg ho HY hm7 hG
    have E8 := Lib.hid (And.intro e8 (And.intro s6 s4))
    clear e8 s6 s4
    go_wp2_with fail
    generalize hw8 : w7.alloc (.cells #[.int .i64 U, .int .i64 N, .slice ag L.length cg] 26) = w8 at *
    clear hw8 v0 v1 v2
    obtain ⟨s8, s6, s4⟩ := E8.out
    refine (eq_board U N _ _ _ _ L _ (rg_own H8.out.2.2.2.1) (rg_own H8.out.2.1) (by omega)).mono ?_
    have S4 := Lib.hid (And.intro s4 (And.intro s6 s8))
    clear s4 s6 s8
    rintro e w9 ⟨rfl, hg⟩
    have H9 := Lib.hid (And.intro (H8.out.1.kept hg) (And.intro (own_kept H8.out.2.1 hg) (And.intro (own_kept H8.out.2.2.1 hg) (And.intro (own_kept H8.out.2.2.2.1 hg) (own_kept H8.out.2.2.2.2 hg)))))
    clear hg H8
    obtain ⟨b0, b1, b2⟩ := bd_facts H9.out.1.left.left.left
    obtain ⟨x0, x1, x2⟩ := bd_facts H9.out.1.left.right
    have HR9 := Lib.hid (HM.out.2.1.kept (grownBy_trans H9.out.1.grown (grownBy_drew (a := w9) (r := none))))
    go_wp2_with fail
    go_region_held3 (fun w' => w'.cell? ⟨w.heap.size, 0, none⟩ = some (.int .i64 a0_0) ∧ w'.cell? ⟨w.heap.size, 1, none⟩ = some (.int .i64 a0_1) ∧ w'.cell? ⟨w.heap.size, 2, none⟩ = some (.slice a0_2 l0_2.length cap0_2) ∧ w'.cell? ⟨w5.heap.size, 0, none⟩ = some (.int .i64 a0_0) ∧ w'.cell? ⟨w5.heap.size, 1, none⟩ = some (.int .i64 a0_1) ∧ w'.cell? ⟨w5.heap.size, 2, none⟩ = some (.slice (some ⟨qx, 0, none⟩) l0_2.length l0_2.length) ∧ w9.grownBy w' none) ((refine ⟨by first | with_reducible assumption | (simp [*]; done), by first | with_reducible assumption | (simp [*]; done), by first | with_reducible assumption | (simp [*]; done), by first | with_reducible assumption | (simp [*]; done), by first | with_reducible assumption | (simp [*]; done), by first | with_reducible assumption | (simp [*]; done), by first | with_reducible assumption | exact grownBy_drew | exact grownBy_trans (by with_reducible assumption) (by with_reducible assumption)⟩))
      (first
        | (go_at_call 35; refine (to_board a0_0 a0_1 a0_2 cap0_2 l0_2 _ HR9.out HB.out).mono ?_; rintro e w10 ⟨qq, rfl, hg, hq⟩; have qg : w9.grownBy w10 none := grownBy_trans grownBy_drew hg; have HQ := Lib.hid (And.intro (rg_own hq) ((rg_own H9.out.2.2.1).kept qg)); clear hq; obtain ⟨q0, q1, q2⟩ := bd_facts (H9.out.1.left.left.left.kept qg); obtain ⟨q8, q9, q10⟩ := bd_facts (H9.out.1.left.right.kept qg))
        | (go_at_call 36; refine (eq_board a0_0 a0_1 _ _ _ _ l0_2 _ HQ.out.2 HQ.out.1 HB.out).mono ?_; rintro e w11 ⟨rfl, hg⟩; have sg : w9.grownBy w11 none := grownBy_trans (by assumption) hg; obtain ⟨t0, t1, t2⟩ := bd_facts (H9.out.1.left.left.left.kept sg); obtain ⟨t8, t9, t10⟩ := bd_facts (H9.out.1.left.right.kept sg)))
    rename_i hH
    have hg := hH.2.2.2.2.2.2
    have H10 := Lib.hid (And.intro (H9.out.1.kept hg) (And.intro (own_kept H9.out.2.1 hg) (And.intro (own_kept H9.out.2.2.1 hg) (And.intro (own_kept H9.out.2.2.2.1 hg) (own_kept H9.out.2.2.2.2 hg)))))
    clear hg hH H9 b0 b1 b2 x0 x1 x2
    go_wp2_with fail
    refine (to_ranges _ _ _ _ (HA1.out.1.kept H10.out.1.grown) HB1.out).mono ?_
    rintro e w10b ⟨rfl, hg, ho⟩
    have H10b := Lib.hid (And.intro (H10.out.1.kept hg) (And.intro (own_kept H10.out.2.1 hg) (And.intro (own_kept H10.out.2.2.1 hg) (And.intro (own_kept H10.out.2.2.2.1 hg) (And.intro (own_kept H10.out.2.2.2.2 hg) ho)))))
    clear hg ho H10
    go_wp2_with fail
    refine (eq_ranges _ _ _ _ _ _ (rg_own H10b.out.2.2.2.2.1) (rg_own H10b.out.2.2.2.2.2) HB1.out).mono ?_
    rintro e w11 ⟨rfl, hg⟩
    have H11 := Lib.hid (And.intro (H10b.out.1.kept hg) (And.intro (own_kept H10b.out.2.1 hg) (And.intro (own_kept H10b.out.2.2.1 hg) (And.intro (own_kept H10b.out.2.2.2.1 hg) (own_kept H10b.out.2.2.2.2.1 hg)))))
    clear hg H10b
    obtain ⟨x0, x1, x2⟩ := bd_facts H11.out.1.left.right
    go_wp2_with fail
    refine (mark_board _ _ _ _ _ _ _ H11.out.2.2.1 HB.out).mono ?_
    rintro e w13 ⟨rfl, ⟨wm, hg0, hg⟩, ho⟩
    have H12 := Lib.hid (And.intro (mark_mine H11.out.1 hg0 hg (fun g e => by
      have := IX.out g e
      obtain ⟨s4, s6, s8⟩ := S4.out
      exact ⟨by omega, four_far (by omega) (by omega) (by omega) (by omega)⟩)) (And.intro (mark_own H11.out.2.1 hg0 hg (fun g e g' e' => by obtain ⟨s4, s6, s8⟩ := S4.out; have := IX.out g e; have := IW.out g' e'; omega)) (And.intro (mark_own H11.out.2.2.2.1 hg0 hg (fun g e g' e' => by obtain ⟨s4, s6, s8⟩ := S4.out; have := IX.out g e; have := IG.out g' e'; omega)) (mark_own H11.out.2.2.2.2 hg0 hg (fun g e g' e' => by obtain ⟨s4, s6, s8⟩ := S4.out; have := IX.out g e; have := IY.out g' e'; omega)))))
    clear hg0 hg ho H11 x0 x1 x2
    have hl12 : ¬ 1 + 2 * (l0_2.length : Int) + 2 * (l1.length : Int) < 0 := by omega
    go_wp2_with fail
    refine (rmark_any (1 + 2 * (l0_2.length : Int)) (by omega) (by omega) _ _ _ _ _ HB1.out H12.out.2.2.2).mono ?_
    rintro e w13 ⟨rfl, hg, ho⟩
    have H13 := Lib.hid (And.intro (mark_mine H12.out.1 (World.grownBy.refl _ _) hg (fun g e => by
      have := IY.out g e
      obtain ⟨s4, s6, s8⟩ := S4.out
      exact ⟨by omega, four_far (by omega) (by omega) (by omega) (by omega)⟩)) (And.intro (mark_own H12.out.2.1 (World.grownBy.refl _ _) hg (fun g e g' e' => by obtain ⟨s4, s6, s8⟩ := S4.out; have := IY.out g e; have := IW.out g' e'; omega)) (mark_own H12.out.2.2.1 (World.grownBy.refl _ _) hg (fun g e g' e' => by obtain ⟨s4, s6, s8⟩ := S4.out; have := IY.out g e; have := IG.out g' e'; omega))))
    clear hg ho H12
    obtain ⟨v0, v1, v2⟩ := bd_facts H13.out.1.left.left.right
    obtain ⟨g0, g1, g2⟩ := bd_facts H13.out.1.right
    go_wp2_with fail
    refine (eq_board U N _ _ _ _ L _ (rg_own H13.out.2.2) (rg_own H13.out.2.1) (by omega)).mono ?_
    rintro e w14 ⟨rfl, hg⟩
    have H14 := Lib.hid (And.intro (H13.out.1.kept hg) (And.intro (own_kept H13.out.2.1 hg) (own_kept H13.out.2.2 hg)))
    clear hg H13 v0 v1 v2 g0 g1 g2
    obtain ⟨g0, g1, g2⟩ := bd_facts H14.out.1.right
    go_wp2_with fail
    refine (mark_board _ _ _ _ _ _ _ H14.out.2.2 (by omega)).mono ?_
    rintro e w17 ⟨rfl, ⟨wm, hg0, hg⟩, ho⟩
    have H17 := Lib.hid (And.intro (mark_mine H14.out.1 hg0 hg (fun g e => by
      have := IG.out g e
      obtain ⟨s4, s6, s8⟩ := S4.out
      exact ⟨by omega, four_far (by omega) (by omega) (by omega) (by omega)⟩)) (And.intro (mark_own H14.out.2.1 hg0 hg (fun g e g' e' => by obtain ⟨s4, s6, s8⟩ := S4.out; have := IG.out g e; have := IW.out g' e'; omega)) (rg_mark ho)))
    clear hg0 hg ho H14 g0 g1 g2
    obtain ⟨g0, g1, g2⟩ := bd_facts H17.out.1.right
    go_wp2_with fail
    refine (held_board _ _ _ _ _ _ H17.out.2.2 (by omega)).mono ?_
    rintro e w19 ⟨rfl, hg⟩
    have H19 := Lib.hid (And.intro (H17.out.1.kept hg) (And.intro (own_kept H17.out.2.1 hg) (H17.out.2.2.kept hg)))
    clear hg H17 g0 g1 g2
    obtain ⟨b0, b1, b2⟩ := bd_facts H19.out.1.left.left.left
    go_wp2_with fail
    refine (to_board a0_0 a0_1 a0_2 cap0_2 l0_2 _ (HM.out.2.1.kept H19.out.1.grown) HB.out).mono ?_
    rintro e w20 ⟨q20, rfl, hg, ho⟩
    have H20 := Lib.hid (And.intro (H19.out.1.kept hg) (And.intro (own_kept H19.out.2.1 hg) (And.intro (H19.out.2.2.kept hg) ho)))
    clear hg ho H19 b0 b1 b2
    go_wp2_with fail
    refine (to_ranges _ _ _ _ (HA1.out.1.kept H20.out.1.grown) HB1.out).mono ?_
    rintro e w20b ⟨rfl, hg, ho⟩
    have H20b := Lib.hid (And.intro (H20.out.1.kept hg) (And.intro (own_kept H20.out.2.1 hg) (And.intro (H20.out.2.2.1.kept hg) (And.intro (own_kept H20.out.2.2.2 hg) ho))))
    clear hg ho H20
    go_wp2_with fail
    refine ((sack_impl _ _ _ _ _ _ _ _ _ (own_rowOk H20b.out.2.2.2.1) (rg_own H20b.out.2.2.2.2) HA1.out.2).mono (fun _ _ h => bd_four HR.out h)).mono ?_
    rintro e w21 ⟨ah, ch, rfl, hg, ho⟩
    have hK := bd_new w21 (.int .i64 U) (.int .i64 N) (.slice ah L.length ch) 26
    have hm21 := H20b.out.1.kept hg
    have H22 := Lib.hid (And.intro ((hm21.kept hK.grown).app (hK.base hm21.grown)) (And.intro (own_kept (own_kept H20b.out.2.1 hg) hK.grown) (And.intro ((H20b.out.2.2.1.kept hg).kept hK.grown) (own_kept ho hK.grown))))
    obtain ⟨v0, v1, v2⟩ := bd_facts hm21.left.left.right
    have s321 : w3.heap.size < w21.heap.size := cell_in v0
    clear hg ho H20b hm21 hK
    go_wp2_with fail
    generalize hw22 : w21.alloc (.cells #[.int .i64 U, .int .i64 N, .slice ah L.length ch] 26) = w22 at *
    clear hw22 v0 v1 v2
    refine (eq_board U N _ _ _ _ L _ (rg_own H22.out.2.2.2) (rg_own H22.out.2.1) (by omega)).mono ?_
    rintro e w25 ⟨rfl, hg⟩
    have H25 := Lib.hid (And.intro (H22.out.1.kept hg) (H22.out.2.2.1.kept hg))
    clear hg H22
    obtain ⟨g0, g1, g2⟩ := bd_facts H25.out.1.left.right
    go_wp2_with fail
    refine (held_board _ _ _ _ _ _ H25.out.2 (by omega)).mono ?_
    rintro e w28 ⟨rfl, hg⟩
    have H28 := Lib.hid (grownBy_trans H25.out.1.grown hg)
    clear hg
    go_wp2_with fail
    go_ret
    exact ⟨rfl, below_new H28.out⟩

set_option maxRecDepth 100000 in
theorem lifted (os : Os) (started : os.Started) (H : Type) (enc : TypeId × Value → H) :
    ReturnsInHanded {} Try.checked os 11 .any (Rows.fnExactBoardSackSpec.pre6 enc Try.prog Try.f11 Rows.fnExactBoardSackRow.domain false) (Rows.fnExactBoardSackSpec.post enc Try.prog Try.f11 false true false false) := by
  refine returnsInHanded_of_change (C := Try.checked) own started (by kernel_rfl) Try.func11
    (ChangeSpec.witness6 (enc := enc) (C := Try.checked) false ⟨#[], #[.agg #[.int .i64 0, .int .i64 0, .slice none 0 0], .slice none 0 0], []⟩ 8 (by kernel_rfl) (by kernel_rfl) (by kernel_rfl) (by kernel_rfl)) ?_
  intro W base args ds gs before hval0 hW hcnd _
  have hval : ∀ (j : Nat) t v, Try.f11.params[j]? = some t → args[j]? = some v → Value.okWide Try.prog W .any base t v := hval0
  have hW' := hW
  obtain ⟨p, q, hA0, hV, rfl, hfz, hnd⟩ := hW
  have hA : DataW.TrodAll enc Try.prog W 0 (fun _ => true) true Try.f11.params.toList args.toList ds p := hA0
  rw [Try.params11] at hA hval
  obtain ⟨v0, vs0, d0, ds0, p0, q0, hargs, rfl, rfl, h0, r0⟩ := trodAll_cons hA
  obtain ⟨v1, vs1, d1, ds1, p1, q1, rfl, rfl, rfl, h1, r1⟩ := trodAll_cons r0
  obtain ⟨rfl, rfl, rfl⟩ := trodAll_nil r1
  obtain rfl : args = #[v0, v1] := by cases args; simp_all
  obtain ⟨rfl, rfl⟩ := trodVars_none hV
  have k0 := h0
  have lt0 : ∀ x ∈ p0, x.block < W.heap.size := by obtain ⟨m, hm⟩ := k0; exact DataW.trod_lt m _ _ _ hm
  obtain ⟨c0_0, c0_1, c0_2, y0_0, y0_1, y0_2, m0, rfl, rfl, rfl, hy0_0, hy0_1, hy0_2⟩ := open_agg3 Try.underlying46 (by kernel_rfl) cells46 (hval 0 46 v0 rfl rfl) h0
  obtain ⟨a0_0, e0_0, rfl, w0_0⟩ := DataW.trod_int Try.underlying2 hy0_0
  simp only [List.cons.injEq, and_true] at e0_0
  subst e0_0
  obtain ⟨a0_1, e0_1, rfl, w0_1⟩ := DataW.trod_int Try.underlying2 hy0_1
  simp only [List.cons.injEq, and_true] at e0_1
  subst e0_1
  obtain ⟨a0_2, len0_2, cap0_2, e0_2⟩ := slice_form Try.underlying44 hy0_2
  simp only [List.cons.injEq, and_true] at e0_2
  subst e0_2
  obtain ⟨l0_2, e0_2, w0_2, n0_2⟩ : ∃ l : List Rg, l.length = len0_2 ∧ RgAt W a0_2 l ∧ l.length ≤ maxLen := by
    rcases Deep.open_slice_pairs Try.underlying44 Try.underlying75 cells75 rfl rfl (by kernel_rfl) (by kernel_rfl) hy0_2 with ⟨hcs, _⟩ | ⟨x, l, c, m, n, V0, V1, D0, D1, P0, P1, hcs, _, hl, hm, hmm, _, hall⟩
    · simp at hcs
      obtain ⟨rfl, rfl, rfl⟩ := hcs
      exact ⟨[], rfl, .inl rfl, Nat.zero_le _⟩
    · simp at hcs
      obtain ⟨rfl, rfl, rfl⟩ := hcs
      have hmc : m = cap0_2 := by simpa using hmm
      obtain ⟨ps, hlen, hps⟩ := list_of (P := fun i (p : Rg) => W.cell? (x.add (i * 2)) = some (.int .i64 p.1) ∧ W.cell? (x.add (i * 2 + 1)) = some (.int .i64 p.2)) len0_2 (fun i hi => by
        obtain ⟨c0, c1, t0, t1⟩ := hall i (by omega)
        obtain ⟨u, e0, _, wu⟩ := DataW.trod_int Try.underlying2 t0
        obtain ⟨s, e1, _, ws⟩ := DataW.trod_int Try.underlying2 t1
        simp only [List.cons.injEq, and_true] at e0 e1
        rw [e0] at c0
        rw [e1] at c1
        exact ⟨(u, s), c0, c1⟩)
      exact ⟨ps, hlen, rgAt_of fun i hi => ⟨(hps i hi).1, (hps i hi).2⟩, by omega⟩
  subst e0_2
  have k1 := h1
  have lt1 : ∀ x ∈ p1, x.block < W.heap.size := by obtain ⟨m, hm⟩ := k1; exact DataW.trod_lt m _ _ _ hm
  obtain ⟨a1, len1, cap1, rfl⟩ := okWide_slice Try.underlying44 (hval 1 44 v1 rfl rfl)
  obtain ⟨l1, e1, w1, n1⟩ : ∃ l : List Rg, l.length = len1 ∧ RgAt W a1 l ∧ l.length ≤ maxLen := by
    obtain ⟨fuel, hf⟩ := h1
    rcases Deep.open_slice_pairs Try.underlying44 Try.underlying75 cells75 rfl rfl (by kernel_rfl) (by kernel_rfl) hf with ⟨hcs, _⟩ | ⟨x, l, c, m, n, V0, V1, D0, D1, P0, P1, hcs, _, hl, hm, hmm, _, hall⟩
    · simp [Value.cells] at hcs
      obtain ⟨rfl, rfl, rfl⟩ := hcs
      exact ⟨[], rfl, .inl rfl, Nat.zero_le _⟩
    · simp [Value.cells] at hcs
      obtain ⟨rfl, rfl, rfl⟩ := hcs
      have hmc : m = cap1 := by simpa using hmm
      obtain ⟨ps, hlen, hps⟩ := list_of (P := fun i (p : Rg) => W.cell? (x.add (i * 2)) = some (.int .i64 p.1) ∧ W.cell? (x.add (i * 2 + 1)) = some (.int .i64 p.2)) len1 (fun i hi => by
        obtain ⟨c0, c1, t0, t1⟩ := hall i (by omega)
        obtain ⟨u, e0, _, wu⟩ := DataW.trod_int Try.underlying2 t0
        obtain ⟨s, e1, _, ws⟩ := DataW.trod_int Try.underlying2 t1
        simp only [List.cons.injEq, and_true] at e0 e1
        rw [e0] at c0
        rw [e1] at c1
        exact ⟨(u, s), c0, c1⟩)
      exact ⟨ps, hlen, rgAt_of fun i hi => ⟨(hps i hi).1, (hps i hi).2⟩, by omega⟩
  subst e1
  clear hA0 hval0
  refine (walk a0_0 a0_1 a0_2 cap0_2 l0_2 a1 cap1 l1 W w0_0 w0_1 w0_2 n0_2 w1 n1).mono fun e W' ⟨he, bel⟩ => ?_
  subst he
  exact ⟨_, rfl, _, _, _, [], _, [], hW', trodAll_mk1 (shut_bool Try.underlying4 _), (trodAll_cons_mk (Below.trod laidOut (by kernel_rfl) (of_decide_eq_true (by kernel_rfl)) k0 bel lt0) (trodAll_cons_mk (Below.trod laidOut (by kernel_rfl) (of_decide_eq_true (by kernel_rfl)) k1 bel lt1) trodAll_mk0)), rfl, bel.frame _, fun h => by cases h⟩

theorem over : Rows.fnExactBoardSackRow.holds Try.pinned (OpenSpec.ofChange Rows.fnExactBoardSackSpec) :=
  OpenClaim.holds_of_wide 11 Try.f11 rfl rfl rfl rfl rfl rfl rfl ⟨rfl, rfl, rfl, rfl, rfl⟩ rfl rfl rfl rfl rfl (by kernel_rfl) Try.func11 (by kernel_rfl)
    (of_decide_eq_true (by kernel_rfl)) (by unfold Func.isWrapper; first | (rw [if_pos (by decide +kernel)]; kernel_rfl) | (rw [if_neg (by decide +kernel)]; exact ⟨rfl, rfl⟩))
    (fun os started H enc _ => lifted os started H enc)

theorem proved : Rows.FnExactBoardSackSaid := over
end Go.Proofs.Ythohcgcdjaebbaa.fnExactBoardSack
