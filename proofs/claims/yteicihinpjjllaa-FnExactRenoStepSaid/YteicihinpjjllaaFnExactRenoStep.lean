/- For every argument the law FnExactRenoStep answers true and leaves its arguments as they were; no condition. -/
import Derived.Test.YteicihinpjjllaaRows
import Derived.Test.YteicihinpjjllaaDraw
import Derived.Test.YteicihinpjjllaaAgg
import Derived.Test.YteicihinpjjllaaRnR
import Derived.Test.YteicihinpjjllaaAgg
import Derived.WalkKit
import Derived.ProofKit
import Derived.OpenShut
import Derived.ShutString
import Derived.ChangeOld
import Derived.Below
import Derived.Lib.SmallJoins
namespace Go.Proofs.Yteicihinpjjllaa.fnExactRenoStep
open Go.ChangeShapes Go.WideShapes Go.ChangeAt Go.RowKit Go.Joins
open Go.ChangeMaps (open_string shut_string)
set_option linter.unusedVariables false

theorem own : ownKnob Try.prog.godebug = none := by kernel_rfl
theorem laidOut : laidOutB Try.prog = true := by kernel_rfl
theorem cells44 : Try.prog.cellsOf 44 = 7 := by kernel_rfl
theorem cells47 : Try.prog.cellsOf 47 = 5 := by kernel_rfl

theorem dummy10 : True := trivial

set_option maxRecDepth 100000 in
set_option maxHeartbeats 5000000 in
theorem walk (a0_0 : Int) (a0_1 : Int) (a0_2 : Int) (a0_3 : Int) (a0_4 : Int) (a0_5 : Int) (a0_6 : Int) (a1_0 : Int) (a1_1 : Int) (a1_2 : Int) (a1_3 : Int) (a1_4 : Int) (w : World) (w0_0 : (Lit.int .i64 a0_0).wf = true) (w0_1 : (Lit.int .i64 a0_1).wf = true) (w0_2 : (Lit.int .i64 a0_2).wf = true) (w0_3 : (Lit.int .i64 a0_3).wf = true) (w0_4 : (Lit.int .i64 a0_4).wf = true) (w0_5 : (Lit.int .i64 a0_5).wf = true) (w0_6 : (Lit.int .i64 a0_6).wf = true) (w1_0 : (Lit.int .i64 a1_0).wf = true) (w1_1 : (Lit.int .i64 a1_1).wf = true) (w1_2 : (Lit.int .i64 a1_2).wf = true) (w1_3 : (Lit.int .i64 a1_3).wf = true) (w1_4 : (Lit.int .i64 a1_4).wf = true) :
    Calls Try.prog 10 #[.agg #[.int .i64 a0_0, .int .i64 a0_1, .int .i64 a0_2, .int .i64 a0_3, .int .i64 a0_4, .int .i64 a0_5, .int .i64 a0_6], .agg #[.int .i64 a1_0, .int .i64 a1_1, .int .i64 a1_2, .int .i64 a1_3, .int .i64 a1_4]] w fun e w' => e = .returned (.bool true) ∧ Below w.heap.size w w' := by
  obtain ⟨R0, R1, R2, R3, R4, R5, R6, b, hv, _, _⟩ := st_ex a0_0 a0_1 a0_2 a0_3 a0_4 a0_5 a0_6 a1_0 a1_1 a1_2 a1_3 a1_4
  have hi := fun W => rn_stepI a0_0 a0_1 a0_2 a0_3 a0_4 a0_5 a0_6 a1_0 a1_1 a1_2 a1_3 a1_4 W
  have hs := fun W => rn_stepS a0_0 a0_1 a0_2 a0_3 a0_4 a0_5 a0_6 a1_0 a1_1 a1_2 a1_3 a1_4 W
  simp only [hv] at hi hs
  have HI := Lib.hid hi
  have HS := Lib.hid hs
  clear hi hs hv
  go_enter Try.func10, Try.ntmps10
  go_upto_region 1 with fail
  obtain ⟨w1, hw1⟩ : ∃ w1, w1 = (w.alloc (.cells #[.int .i64 a0_0, .int .i64 a0_1, .int .i64 a0_2, .int .i64 a0_3, .int .i64 a0_4, .int .i64 a0_5, .int .i64 a0_6] 44)).alloc (.cells #[.int .i64 a1_0, .int .i64 a1_1, .int .i64 a1_2, .int .i64 a1_3, .int .i64 a1_4] 47) := ⟨_, rfl⟩
  rw [← hw1]
  have HAw1 := Lib.hid (show Bx w1 w.heap.size 44 #[.int .i64 a0_0, .int .i64 a0_1, .int .i64 a0_2, .int .i64 a0_3, .int .i64 a0_4, .int .i64 a0_5, .int .i64 a0_6] from hw1 ▸ (Bx.new _ _ _).alloc _)
  have he : Bx w1 (w.heap.size + 1) 47 #[.int .i64 a1_0, .int .i64 a1_1, .int .i64 a1_2, .int .i64 a1_3, .int .i64 a1_4] := by
    have h := Bx.new (w.alloc (.cells #[.int .i64 a0_0, .int .i64 a0_1, .int .i64 a0_2, .int .i64 a0_3, .int .i64 a0_4, .int .i64 a0_5, .int .i64 a0_6] 44)) 47 #[.int .i64 a1_0, .int .i64 a1_1, .int .i64 a1_2, .int .i64 a1_3, .int .i64 a1_4]
    rw [← hw1] at h
    simp only [World.size_alloc] at h
    exact h
  have HEw1 := Lib.hid he
  have HGw1 := Lib.hid (show w.grownBy w1 none from hw1 ▸ gA (gA (World.grownBy.refl _ _) _) _)
  clear he hw1
  go_cut [5, 6] (fun s5 s6 wx => ∃ B : Nat, s5 = .pointer (some ⟨B, 0, none⟩) ∧ s6 = .bool b ∧ Bx wx B 25 #[.int .i64 R0, .int .i64 R1, .int .i64 R2, .int .i64 R3, .int .i64 R4, .int .i64 R5, .int .i64 R6] ∧ w1.grownBy wx none)
  case first =>
    have a0 : w1.cell? ⟨w.heap.size, 0, none⟩ = some (.int .i64 a0_0) := HAw1.out.c 0 rfl
    have a1 : w1.cell? ⟨w.heap.size, 1, none⟩ = some (.int .i64 a0_1) := HAw1.out.c 1 rfl
    have a2 : w1.cell? ⟨w.heap.size, 2, none⟩ = some (.int .i64 a0_2) := HAw1.out.c 2 rfl
    have a3 : w1.cell? ⟨w.heap.size, 3, none⟩ = some (.int .i64 a0_3) := HAw1.out.c 3 rfl
    have a4 : w1.cell? ⟨w.heap.size, 4, none⟩ = some (.int .i64 a0_4) := HAw1.out.c 4 rfl
    have a5 : w1.cell? ⟨w.heap.size, 5, none⟩ = some (.int .i64 a0_5) := HAw1.out.c 5 rfl
    have a6 : w1.cell? ⟨w.heap.size, 6, none⟩ = some (.int .i64 a0_6) := HAw1.out.c 6 rfl
    have e0 : w1.cell? ⟨(w.heap.size + 1), 0, none⟩ = some (.int .i64 a1_0) := HEw1.out.c 0 rfl
    have e1 : w1.cell? ⟨(w.heap.size + 1), 1, none⟩ = some (.int .i64 a1_1) := HEw1.out.c 1 rfl
    have e2 : w1.cell? ⟨(w.heap.size + 1), 2, none⟩ = some (.int .i64 a1_2) := HEw1.out.c 2 rfl
    have e3 : w1.cell? ⟨(w.heap.size + 1), 3, none⟩ = some (.int .i64 a1_3) := HEw1.out.c 3 rfl
    have e4 : w1.cell? ⟨(w.heap.size + 1), 4, none⟩ = some (.int .i64 a1_4) := HEw1.out.c 4 rfl
    have la := HAw1.out.lt
    have le := HEw1.out.lt
    go_region_with (first | (go_at_call 26; refine (rn_to a0_0 a0_1 a0_2 a0_3 a0_4 a0_5 a0_6 _).mono ?_; rintro e w2 ⟨rfl, hg⟩; have G2 := Lib.hid (show w1.grownBy w2 none from (by first | exact hg | exact grownBy_trans grownBy_drew hg | exact grownBy_trans (World.grownBy_alloc _ _ _) hg | exact grownBy_trans grownBy_drew (grownBy_trans (World.grownBy_alloc _ _ _) hg) | exact grownBy_trans (World.grownBy_alloc _ _ _) (grownBy_trans grownBy_drew hg))); (first | have xa := Lib.hid ((Bx.new _ 25 #[.int .i64 0, .int .i64 0, .int .i64 0, .int .i64 0, .int .i64 0, .int .i64 0, .int .i64 0]).keep hg) | have xa := Lib.hid (((Bx.new _ 25 #[.int .i64 0, .int .i64 0, .int .i64 0, .int .i64 0, .int .i64 0, .int .i64 0, .int .i64 0]).keep (grownBy_drew (r := none))).keep hg) | have xa := Lib.hid (xa.out.keep hg) | skip); clear hg; have e0 := (HEw1.out.keep G2.out).c 0 (x := .int .i64 a1_0) rfl; have e1 := (HEw1.out.keep G2.out).c 1 (x := .int .i64 a1_1) rfl; have e2 := (HEw1.out.keep G2.out).c 2 (x := .int .i64 a1_2) rfl; have e3 := (HEw1.out.keep G2.out).c 3 (x := .int .i64 a1_3) rfl; have e4 := (HEw1.out.keep G2.out).c 4 (x := .int .i64 a1_4) rfl; have le2 := (HEw1.out.keep G2.out).lt) | (go_at_call 27; refine (ev_to a1_0 a1_1 a1_2 a1_3 a1_4 _).mono ?_; rintro e w3 ⟨rfl, hg⟩; have G3 := Lib.hid (show w2.grownBy w3 none from (by first | exact hg | exact grownBy_trans grownBy_drew hg | exact grownBy_trans (World.grownBy_alloc _ _ _) hg | exact grownBy_trans grownBy_drew (grownBy_trans (World.grownBy_alloc _ _ _) hg) | exact grownBy_trans (World.grownBy_alloc _ _ _) (grownBy_trans grownBy_drew hg))); (first | have xb := Lib.hid ((Bx.new _ 25 #[.int .i64 0, .int .i64 0, .int .i64 0, .int .i64 0, .int .i64 0, .int .i64 0, .int .i64 0]).keep hg) | have xb := Lib.hid (((Bx.new _ 25 #[.int .i64 0, .int .i64 0, .int .i64 0, .int .i64 0, .int .i64 0, .int .i64 0, .int .i64 0]).keep (grownBy_drew (r := none))).keep hg) | have xb := Lib.hid (xa.out.keep hg) | skip); clear hg) | (go_at_call 15; refine (HS.out _).mono ?_; rintro e w4 ⟨rfl, hg⟩; have G4 := Lib.hid (show w3.grownBy w4 none from (by first | exact hg | exact grownBy_trans grownBy_drew hg | exact grownBy_trans (World.grownBy_alloc _ _ _) hg | exact grownBy_trans grownBy_drew (grownBy_trans (World.grownBy_alloc _ _ _) hg) | exact grownBy_trans (World.grownBy_alloc _ _ _) (grownBy_trans grownBy_drew hg))); (first | have xc := Lib.hid ((Bx.new _ 25 #[.int .i64 0, .int .i64 0, .int .i64 0, .int .i64 0, .int .i64 0, .int .i64 0, .int .i64 0]).keep hg) | have xc := Lib.hid (((Bx.new _ 25 #[.int .i64 0, .int .i64 0, .int .i64 0, .int .i64 0, .int .i64 0, .int .i64 0, .int .i64 0]).keep (grownBy_drew (r := none))).keep hg) | have xc := Lib.hid (xb.out.keep hg) | skip); clear hg; try (have q0 := xc.out.c 0 (x := .int .i64 0) rfl; have q1 := xc.out.c 1 (x := .int .i64 0) rfl; have q2 := xc.out.c 2 (x := .int .i64 0) rfl; have q3 := xc.out.c 3 (x := .int .i64 0) rfl; have q4 := xc.out.c 4 (x := .int .i64 0) rfl; have q5 := xc.out.c 5 (x := .int .i64 0) rfl; have q6 := xc.out.c 6 (x := .int .i64 0) rfl; have qf0 := xc.out.f 0; have qf1 := xc.out.f 1; have qf2 := xc.out.f 2; have qf3 := xc.out.f 3; have qf4 := xc.out.f 4; have qf5 := xc.out.f 5; have qf6 := xc.out.f 6)))
    all_goals
      go_wp2_with fail
      go_meet
      have G5 := grownBy_trans (grownBy_trans G2.out G3.out) G4.out
      first
        | exact ⟨_, rfl, rfl, by with_reducible exact Bx.new _ _ _, by with_reducible exact grownBy_trans G5 (World.grownBy_alloc _ _ none)⟩
        | exact ⟨_, rfl, rfl, by with_reducible exact set7 xc.out _ _ _ _ _ _ _, by with_reducible exact gsets G5 la⟩
        | exact ⟨_, rfl, rfl, by with_reducible exact set7 xc.out _ _ _ _ _ _ _, by with_reducible exact gsets G5 (by have := G2.out.size; omega)⟩
        | exact ⟨_, rfl, rfl, by with_reducible exact set7 xc.out _ _ _ _ _ _ _, by with_reducible exact gsets G5 (by have := G2.out.size; have := G3.out.size; omega)⟩
        | exact ⟨_, rfl, rfl, by with_reducible exact set7 xc.out _ _ _ _ _ _ _, by with_reducible exact gsets G5 (Nat.le_refl _)⟩
  case rest =>
    obtain ⟨B, rfl, rfl, hbx, hg⟩ := hcut
    have HG5 := Lib.hid (grownBy_trans HGw1.out hg)
    have HAw5 := Lib.hid (HAw1.out.keep hg)
    have HEw5 := Lib.hid (HEw1.out.keep hg)
    have HB5 := Lib.hid hbx
    clear hg hbx HAw1 HEw1 HGw1
    generalize hwc : wc = w5 at *
    clear hwc
    go_upto_region 2 with fail
    go_cut [7, 8] (fun s7 s8 wx => ∃ B : Nat, s7 = .pointer (some ⟨B, 0, none⟩) ∧ s8 = .bool b ∧ Bx wx B 25 #[.int .i64 R0, .int .i64 R1, .int .i64 R2, .int .i64 R3, .int .i64 R4, .int .i64 R5, .int .i64 R6] ∧ w5.grownBy wx none)
    case first =>
      have a0 : w5.cell? ⟨w.heap.size, 0, none⟩ = some (.int .i64 a0_0) := HAw5.out.c 0 rfl
      have a1 : w5.cell? ⟨w.heap.size, 1, none⟩ = some (.int .i64 a0_1) := HAw5.out.c 1 rfl
      have a2 : w5.cell? ⟨w.heap.size, 2, none⟩ = some (.int .i64 a0_2) := HAw5.out.c 2 rfl
      have a3 : w5.cell? ⟨w.heap.size, 3, none⟩ = some (.int .i64 a0_3) := HAw5.out.c 3 rfl
      have a4 : w5.cell? ⟨w.heap.size, 4, none⟩ = some (.int .i64 a0_4) := HAw5.out.c 4 rfl
      have a5 : w5.cell? ⟨w.heap.size, 5, none⟩ = some (.int .i64 a0_5) := HAw5.out.c 5 rfl
      have a6 : w5.cell? ⟨w.heap.size, 6, none⟩ = some (.int .i64 a0_6) := HAw5.out.c 6 rfl
      have e0 : w5.cell? ⟨(w.heap.size + 1), 0, none⟩ = some (.int .i64 a1_0) := HEw5.out.c 0 rfl
      have e1 : w5.cell? ⟨(w.heap.size + 1), 1, none⟩ = some (.int .i64 a1_1) := HEw5.out.c 1 rfl
      have e2 : w5.cell? ⟨(w.heap.size + 1), 2, none⟩ = some (.int .i64 a1_2) := HEw5.out.c 2 rfl
      have e3 : w5.cell? ⟨(w.heap.size + 1), 3, none⟩ = some (.int .i64 a1_3) := HEw5.out.c 3 rfl
      have e4 : w5.cell? ⟨(w.heap.size + 1), 4, none⟩ = some (.int .i64 a1_4) := HEw5.out.c 4 rfl
      have la := HAw5.out.lt
      have le := HEw5.out.lt
      go_region_with (first | (go_at_call 26; refine (rn_to a0_0 a0_1 a0_2 a0_3 a0_4 a0_5 a0_6 _).mono ?_; rintro e w2 ⟨rfl, hg⟩; have G2 := Lib.hid (show w5.grownBy w2 none from (by first | exact hg | exact grownBy_trans grownBy_drew hg | exact grownBy_trans (World.grownBy_alloc _ _ _) hg | exact grownBy_trans grownBy_drew (grownBy_trans (World.grownBy_alloc _ _ _) hg) | exact grownBy_trans (World.grownBy_alloc _ _ _) (grownBy_trans grownBy_drew hg))); (first | have xa := Lib.hid ((Bx.new _ 25 #[.int .i64 0, .int .i64 0, .int .i64 0, .int .i64 0, .int .i64 0, .int .i64 0, .int .i64 0]).keep hg) | have xa := Lib.hid (((Bx.new _ 25 #[.int .i64 0, .int .i64 0, .int .i64 0, .int .i64 0, .int .i64 0, .int .i64 0, .int .i64 0]).keep (grownBy_drew (r := none))).keep hg) | have xa := Lib.hid (xa.out.keep hg) | skip); clear hg; have e0 := (HEw5.out.keep G2.out).c 0 (x := .int .i64 a1_0) rfl; have e1 := (HEw5.out.keep G2.out).c 1 (x := .int .i64 a1_1) rfl; have e2 := (HEw5.out.keep G2.out).c 2 (x := .int .i64 a1_2) rfl; have e3 := (HEw5.out.keep G2.out).c 3 (x := .int .i64 a1_3) rfl; have e4 := (HEw5.out.keep G2.out).c 4 (x := .int .i64 a1_4) rfl; have le2 := (HEw5.out.keep G2.out).lt) | (go_at_call 27; refine (ev_to a1_0 a1_1 a1_2 a1_3 a1_4 _).mono ?_; rintro e w3 ⟨rfl, hg⟩; have G3 := Lib.hid (show w2.grownBy w3 none from (by first | exact hg | exact grownBy_trans grownBy_drew hg | exact grownBy_trans (World.grownBy_alloc _ _ _) hg | exact grownBy_trans grownBy_drew (grownBy_trans (World.grownBy_alloc _ _ _) hg) | exact grownBy_trans (World.grownBy_alloc _ _ _) (grownBy_trans grownBy_drew hg))); (first | have xb := Lib.hid ((Bx.new _ 25 #[.int .i64 0, .int .i64 0, .int .i64 0, .int .i64 0, .int .i64 0, .int .i64 0, .int .i64 0]).keep hg) | have xb := Lib.hid (((Bx.new _ 25 #[.int .i64 0, .int .i64 0, .int .i64 0, .int .i64 0, .int .i64 0, .int .i64 0, .int .i64 0]).keep (grownBy_drew (r := none))).keep hg) | have xb := Lib.hid (xa.out.keep hg) | skip); clear hg) | (go_at_call 14; refine (HI.out _).mono ?_; rintro e w4 ⟨rfl, hg⟩; have G4 := Lib.hid (show w3.grownBy w4 none from (by first | exact hg | exact grownBy_trans grownBy_drew hg | exact grownBy_trans (World.grownBy_alloc _ _ _) hg | exact grownBy_trans grownBy_drew (grownBy_trans (World.grownBy_alloc _ _ _) hg) | exact grownBy_trans (World.grownBy_alloc _ _ _) (grownBy_trans grownBy_drew hg))); (first | have xc := Lib.hid ((Bx.new _ 25 #[.int .i64 0, .int .i64 0, .int .i64 0, .int .i64 0, .int .i64 0, .int .i64 0, .int .i64 0]).keep hg) | have xc := Lib.hid (((Bx.new _ 25 #[.int .i64 0, .int .i64 0, .int .i64 0, .int .i64 0, .int .i64 0, .int .i64 0, .int .i64 0]).keep (grownBy_drew (r := none))).keep hg) | have xc := Lib.hid (xb.out.keep hg) | skip); clear hg; try (have q0 := xc.out.c 0 (x := .int .i64 0) rfl; have q1 := xc.out.c 1 (x := .int .i64 0) rfl; have q2 := xc.out.c 2 (x := .int .i64 0) rfl; have q3 := xc.out.c 3 (x := .int .i64 0) rfl; have q4 := xc.out.c 4 (x := .int .i64 0) rfl; have q5 := xc.out.c 5 (x := .int .i64 0) rfl; have q6 := xc.out.c 6 (x := .int .i64 0) rfl; have qf0 := xc.out.f 0; have qf1 := xc.out.f 1; have qf2 := xc.out.f 2; have qf3 := xc.out.f 3; have qf4 := xc.out.f 4; have qf5 := xc.out.f 5; have qf6 := xc.out.f 6)))
      all_goals
        go_wp2_with fail
        go_meet
        have G5 := grownBy_trans (grownBy_trans G2.out G3.out) G4.out
        first
          | exact ⟨_, rfl, rfl, by with_reducible exact Bx.new _ _ _, by with_reducible exact grownBy_trans G5 (World.grownBy_alloc _ _ none)⟩
          | exact ⟨_, rfl, rfl, by with_reducible exact set7 xc.out _ _ _ _ _ _ _, by with_reducible exact gsets G5 la⟩
          | exact ⟨_, rfl, rfl, by with_reducible exact set7 xc.out _ _ _ _ _ _ _, by with_reducible exact gsets G5 (by have := G2.out.size; omega)⟩
          | exact ⟨_, rfl, rfl, by with_reducible exact set7 xc.out _ _ _ _ _ _ _, by with_reducible exact gsets G5 (by have := G2.out.size; have := G3.out.size; omega)⟩
          | exact ⟨_, rfl, rfl, by with_reducible exact set7 xc.out _ _ _ _ _ _ _, by with_reducible exact gsets G5 (Nat.le_refl _)⟩
    case rest =>
      obtain ⟨B2, rfl, rfl, hbx, hg⟩ := hcut
      have HG6 := Lib.hid (grownBy_trans HG5.out hg)
      have HB6 := Lib.hid (HB5.out.keep hg)
      have HC6 := Lib.hid hbx
      clear hg hbx HAw5 HEw5 HG5 HB5
      have c0 := HB6.out.c 0 (x := .int .i64 R0) rfl
      have c1 := HB6.out.c 1 (x := .int .i64 R1) rfl
      have c2 := HB6.out.c 2 (x := .int .i64 R2) rfl
      have c3 := HB6.out.c 3 (x := .int .i64 R3) rfl
      have c4 := HB6.out.c 4 (x := .int .i64 R4) rfl
      have c5 := HB6.out.c 5 (x := .int .i64 R5) rfl
      have c6 := HB6.out.c 6 (x := .int .i64 R6) rfl
      have d0 := HC6.out.c 0 (x := .int .i64 R0) rfl
      have d1 := HC6.out.c 1 (x := .int .i64 R1) rfl
      have d2 := HC6.out.c 2 (x := .int .i64 R2) rfl
      have d3 := HC6.out.c 3 (x := .int .i64 R3) rfl
      have d4 := HC6.out.c 4 (x := .int .i64 R4) rfl
      have d5 := HC6.out.c 5 (x := .int .i64 R5) rfl
      have d6 := HC6.out.c 6 (x := .int .i64 R6) rfl
      go_wp2_with fail
      refine (rn_eq R0 R1 R2 R3 R4 R5 R6 _).mono ?_
      rintro e w9 ⟨rfl, hg⟩
      have HG9 := Lib.hid (grownBy_trans HG6.out hg)
      clear hg
      go_wp2_with fail
      go_ret
      exact ⟨rfl, below_new HG9.out⟩

set_option maxRecDepth 100000 in
theorem lifted (os : Os) (started : os.Started) (H : Type) (enc : TypeId × Value → H) :
    ReturnsInHanded {} Try.checked os 10 .any (Rows.fnExactRenoStepSpec.pre6 enc Try.prog Try.f10 Rows.fnExactRenoStepRow.domain false) (Rows.fnExactRenoStepSpec.post enc Try.prog Try.f10 false true false false) := by
  refine returnsInHanded_of_change (C := Try.checked) own started (by kernel_rfl) Try.func10
    (ChangeSpec.witness6 (enc := enc) (C := Try.checked) false ⟨#[], #[.agg #[.int .i64 0, .int .i64 0, .int .i64 0, .int .i64 0, .int .i64 0, .int .i64 0, .int .i64 0], .agg #[.int .i64 0, .int .i64 0, .int .i64 0, .int .i64 0, .int .i64 0]], []⟩ 8 (by kernel_rfl) (by kernel_rfl) (by kernel_rfl) (by kernel_rfl)) ?_
  intro W base args ds gs before hval0 hW hcnd _
  have hval : ∀ (j : Nat) t v, Try.f10.params[j]? = some t → args[j]? = some v → Value.okWide Try.prog W .any base t v := hval0
  have hW' := hW
  obtain ⟨p, q, hA0, hV, rfl, hfz, hnd⟩ := hW
  have hA : DataW.TrodAll enc Try.prog W 0 (fun _ => true) true Try.f10.params.toList args.toList ds p := hA0
  rw [Try.params10] at hA hval
  obtain ⟨v0, vs0, d0, ds0, p0, q0, hargs, rfl, rfl, h0, r0⟩ := trodAll_cons hA
  obtain ⟨v1, vs1, d1, ds1, p1, q1, rfl, rfl, rfl, h1, r1⟩ := trodAll_cons r0
  obtain ⟨rfl, rfl, rfl⟩ := trodAll_nil r1
  obtain rfl : args = #[v0, v1] := by cases args; simp_all
  obtain ⟨rfl, rfl⟩ := trodVars_none hV
  have k0 := h0
  have lt0 : ∀ x ∈ p0, x.block < W.heap.size := by obtain ⟨m, hm⟩ := k0; exact DataW.trod_lt m _ _ _ hm
  obtain ⟨c0_0, c0_1, c0_2, c0_3, c0_4, c0_5, c0_6, y0_0, y0_1, y0_2, y0_3, y0_4, y0_5, y0_6, m0, rfl, rfl, rfl, hy0_0, hy0_1, hy0_2, hy0_3, hy0_4, hy0_5, hy0_6⟩ := open_agg7 Try.underlying44 (by kernel_rfl) cells44 (hval 0 44 v0 rfl rfl) h0
  obtain ⟨a0_0, e0_0, rfl, w0_0⟩ := DataW.trod_int Try.underlying2 hy0_0
  simp only [List.cons.injEq, and_true] at e0_0
  subst e0_0
  obtain ⟨a0_1, e0_1, rfl, w0_1⟩ := DataW.trod_int Try.underlying2 hy0_1
  simp only [List.cons.injEq, and_true] at e0_1
  subst e0_1
  obtain ⟨a0_2, e0_2, rfl, w0_2⟩ := DataW.trod_int Try.underlying2 hy0_2
  simp only [List.cons.injEq, and_true] at e0_2
  subst e0_2
  obtain ⟨a0_3, e0_3, rfl, w0_3⟩ := DataW.trod_int Try.underlying2 hy0_3
  simp only [List.cons.injEq, and_true] at e0_3
  subst e0_3
  obtain ⟨a0_4, e0_4, rfl, w0_4⟩ := DataW.trod_int Try.underlying2 hy0_4
  simp only [List.cons.injEq, and_true] at e0_4
  subst e0_4
  obtain ⟨a0_5, e0_5, rfl, w0_5⟩ := DataW.trod_int Try.underlying2 hy0_5
  simp only [List.cons.injEq, and_true] at e0_5
  subst e0_5
  obtain ⟨a0_6, e0_6, rfl, w0_6⟩ := DataW.trod_int Try.underlying2 hy0_6
  simp only [List.cons.injEq, and_true] at e0_6
  subst e0_6
  have k1 := h1
  have lt1 : ∀ x ∈ p1, x.block < W.heap.size := by obtain ⟨m, hm⟩ := k1; exact DataW.trod_lt m _ _ _ hm
  obtain ⟨c1_0, c1_1, c1_2, c1_3, c1_4, y1_0, y1_1, y1_2, y1_3, y1_4, m1, rfl, rfl, rfl, hy1_0, hy1_1, hy1_2, hy1_3, hy1_4⟩ := open_agg5 Try.underlying47 (by kernel_rfl) cells47 (hval 1 47 v1 rfl rfl) h1
  obtain ⟨a1_0, e1_0, rfl, w1_0⟩ := DataW.trod_int Try.underlying2 hy1_0
  simp only [List.cons.injEq, and_true] at e1_0
  subst e1_0
  obtain ⟨a1_1, e1_1, rfl, w1_1⟩ := DataW.trod_int Try.underlying2 hy1_1
  simp only [List.cons.injEq, and_true] at e1_1
  subst e1_1
  obtain ⟨a1_2, e1_2, rfl, w1_2⟩ := DataW.trod_int Try.underlying2 hy1_2
  simp only [List.cons.injEq, and_true] at e1_2
  subst e1_2
  obtain ⟨a1_3, e1_3, rfl, w1_3⟩ := DataW.trod_int Try.underlying2 hy1_3
  simp only [List.cons.injEq, and_true] at e1_3
  subst e1_3
  obtain ⟨a1_4, e1_4, rfl, w1_4⟩ := DataW.trod_int Try.underlying2 hy1_4
  simp only [List.cons.injEq, and_true] at e1_4
  subst e1_4
  clear hA0 hval0
  refine (walk a0_0 a0_1 a0_2 a0_3 a0_4 a0_5 a0_6 a1_0 a1_1 a1_2 a1_3 a1_4 W w0_0 w0_1 w0_2 w0_3 w0_4 w0_5 w0_6 w1_0 w1_1 w1_2 w1_3 w1_4).mono fun e W' ⟨he, bel⟩ => ?_
  subst he
  exact ⟨_, rfl, _, _, _, [], _, [], hW', trodAll_mk1 (shut_bool Try.underlying4 _), (trodAll_cons_mk (Below.trod laidOut (by kernel_rfl) (of_decide_eq_true (by kernel_rfl)) k0 bel lt0) (trodAll_cons_mk (Below.trod laidOut (by kernel_rfl) (of_decide_eq_true (by kernel_rfl)) k1 bel lt1) trodAll_mk0)), rfl, bel.frame _, fun h => by cases h⟩

theorem over : Rows.fnExactRenoStepRow.holds Try.pinned (OpenSpec.ofChange Rows.fnExactRenoStepSpec) :=
  OpenClaim.holds_of_wide 10 Try.f10 rfl rfl rfl rfl rfl rfl rfl ⟨rfl, rfl, rfl, rfl, rfl⟩ rfl rfl rfl rfl rfl (by kernel_rfl) Try.func10 (by kernel_rfl)
    (of_decide_eq_true (by kernel_rfl)) (by unfold Func.isWrapper; first | (rw [if_pos (by decide +kernel)]; kernel_rfl) | (rw [if_neg (by decide +kernel)]; exact ⟨rfl, rfl⟩))
    (fun os started H enc _ => lifted os started H enc)

theorem proved : Rows.FnExactRenoStepSaid := over
end Go.Proofs.Yteicihinpjjllaa.fnExactRenoStep
