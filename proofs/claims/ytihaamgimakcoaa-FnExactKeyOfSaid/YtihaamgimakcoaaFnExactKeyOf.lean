/- For every packet and every segment the law FnExactKeyOf answers true and leaves its arguments as they were; no condition. -/
import Derived.Test.YtihaamgimakcoaaRows
import Derived.Test.YtihaamgimakcoaaDraw
import Derived.Test.YtihaamgimakcoaaDrawB
import Derived.Test.YtihaamgimakcoaaOct
import Derived.Test.YtihaamgimakcoaaBxK
import Derived.Test.YtihaamgimakcoaaAgg
import Derived.WalkKit
import Derived.ProofKit
import Derived.OpenShut
import Derived.ShutString
import Derived.ChangeOld
import Derived.Below
import Derived.Lib.SmallJoins
import Derived.Deep.SlicePairs
namespace Go.Proofs.Ytihaamgimakcoaa.fnExactKeyOf
open Go.ChangeShapes Go.WideShapes Go.ChangeAt Go.RowKit Go.Joins
open Go.ChangeMaps (open_string shut_string)
set_option linter.unusedVariables false

theorem own : ownKnob Try.prog.godebug = none := by kernel_rfl
theorem laidOut : laidOutB Try.prog = true := by kernel_rfl
theorem cells23 : Try.prog.cellsOf 23 = 6 := by kernel_rfl
theorem cells26 : Try.prog.cellsOf 26 = 8 := by kernel_rfl
theorem cells84 : Try.prog.cellsOf 84 = 2 := by kernel_rfl

theorem dummy6 : True := trivial

set_option maxRecDepth 100000 in
set_option maxHeartbeats 10000000 in
theorem walk (a0_0 : Int) (a0_1 : Int) (a0_2 : Int) (a0_3 : Int) (a0_4 : Int) (a0_5 : ByteArray) (a1_0 : Int) (a1_1 : Int) (a1_2 : Int) (a1_3 : Int) (a1_4 : Int) (a1_5 : Int) (a1_6 : Option Addr) (cap1_6 : Nat) (l1_6 : List Rg) (a1_7 : ByteArray) (w : World) (w0_0 : (Lit.int .i64 a0_0).wf = true) (w0_1 : (Lit.int .i64 a0_1).wf = true) (w0_2 : (Lit.int .i64 a0_2).wf = true) (w0_3 : (Lit.int .i64 a0_3).wf = true) (w0_4 : (Lit.int .i64 a0_4).wf = true) (w0_5 : a0_5.size ≤ maxLen) (w1_0 : (Lit.int .i64 a1_0).wf = true) (w1_1 : (Lit.int .i64 a1_1).wf = true) (w1_2 : (Lit.int .i64 a1_2).wf = true) (w1_3 : (Lit.int .i64 a1_3).wf = true) (w1_4 : (Lit.int .i64 a1_4).wf = true) (w1_5 : (Lit.int .i64 a1_5).wf = true) (w1_6 : RgAt w a1_6 l1_6) (n1_6 : l1_6.length ≤ maxLen) (w1_7 : a1_7.size ≤ maxLen) :
    Calls Try.prog 3 #[.agg #[.int .i64 a0_0, .int .i64 a0_1, .int .i64 a0_2, .int .i64 a0_3, .int .i64 a0_4, .string a0_5], .agg #[.int .i64 a1_0, .int .i64 a1_1, .int .i64 a1_2, .int .i64 a1_3, .int .i64 a1_4, .int .i64 a1_5, .slice a1_6 l1_6.length cap1_6, .string a1_7]] w fun e w' => e = .returned (.bool true) ∧ Below w.heap.size w w' := by
  obtain ⟨xb, rfl⟩ : ∃ l : List UInt8, a0_5 = ⟨l.toArray⟩ := ⟨a0_5.data.toList, ba_of rfl⟩
  obtain ⟨yb, rfl⟩ : ∃ l : List UInt8, a1_7 = ⟨l.toArray⟩ := ⟨a1_7.data.toList, ba_of rfl⟩
  rw [str_size] at w0_5 w1_7
  have hl0 := n1_6
  unfold maxLen at w0_5 w1_7 hl0
  have HL := Lib.hid (And.intro w0_5 (And.intro w1_7 (And.intro hl0 w1_6)))
  clear w0_0 w0_1 w0_2 w0_3 w0_4 w0_5 w1_0 w1_1 w1_2 w1_3 w1_4 w1_5 w1_6 w1_7 hl0 n1_6
  have H0 := Lib.hid (And.intro ((Bx.new w 23 #[.int .i64 a0_0, .int .i64 a0_1, .int .i64 a0_2, .int .i64 a0_3, .int .i64 a0_4, .string ⟨xb.toArray⟩]).alloc (.cells #[.int .i64 a1_0, .int .i64 a1_1, .int .i64 a1_2, .int .i64 a1_3, .int .i64 a1_4, .int .i64 a1_5, .slice a1_6 l1_6.length cap1_6, .string ⟨yb.toArray⟩] 26)) (And.intro (show Bx _ (w.heap.size + 1) 26 #[.int .i64 a1_0, .int .i64 a1_1, .int .i64 a1_2, .int .i64 a1_3, .int .i64 a1_4, .int .i64 a1_5, .slice a1_6 l1_6.length cap1_6, .string ⟨yb.toArray⟩] by have h := Bx.new (w.alloc (.cells #[.int .i64 a0_0, .int .i64 a0_1, .int .i64 a0_2, .int .i64 a0_3, .int .i64 a0_4, .string ⟨xb.toArray⟩] 23)) 26 #[.int .i64 a1_0, .int .i64 a1_1, .int .i64 a1_2, .int .i64 a1_3, .int .i64 a1_4, .int .i64 a1_5, .slice a1_6 l1_6.length cap1_6, .string ⟨yb.toArray⟩]; simpa using h) (gA (World.grownBy_alloc w (.cells #[.int .i64 a0_0, .int .i64 a0_1, .int .i64 a0_2, .int .i64 a0_3, .int .i64 a0_4, .string ⟨xb.toArray⟩] 23) none) (.cells #[.int .i64 a1_0, .int .i64 a1_1, .int .i64 a1_2, .int .i64 a1_3, .int .i64 a1_4, .int .i64 a1_5, .slice a1_6 l1_6.length cap1_6, .string ⟨yb.toArray⟩] 26))))
  go_enter Try.func3, Try.ntmps3
  go_wp2_with fail
  refine (sz_ip a0_0 a0_1 a0_2 a0_3 a0_4 xb _ (by have := HL.out.1; omega)).mono ?_
  rintro e w1 ⟨⟨r, rfl, hr⟩, hg⟩
  have H1 := Lib.hid (And.intro (H0.out.1.keep hg) (And.intro (H0.out.2.1.keep hg) (grownBy_trans H0.out.2.2 hg)))
  clear hg
  have e0 := H1.out.2.1.c 0 (x := .int .i64 a1_0) rfl
  have e1 := H1.out.2.1.c 1 (x := .int .i64 a1_1) rfl
  have e2 := H1.out.2.1.c 2 (x := .int .i64 a1_2) rfl
  have e3 := H1.out.2.1.c 3 (x := .int .i64 a1_3) rfl
  have e4 := H1.out.2.1.c 4 (x := .int .i64 a1_4) rfl
  have e5 := H1.out.2.1.c 5 (x := .int .i64 a1_5) rfl
  have e6 := H1.out.2.1.c 6 (x := .slice a1_6 l1_6.length cap1_6) rfl
  have e7 := H1.out.2.1.c 7 (x := .string ⟨yb.toArray⟩) rfl
  by_cases hr0 : r < 0
  · go_wp2_with fail
    go_ret
    exact ⟨rfl, below_new H1.out.2.2⟩
  · go_wp2_with fail
    refine (sz_tcpK a1_0 a1_1 a1_2 a1_3 a1_4 a1_5 a1_6 cap1_6 l1_6 yb r _ (by have := HL.out; omega) (by have := HL.out; omega) (by omega) hr).mono ?_
    rintro e w2 ⟨⟨r2, rfl, hr2⟩, hg⟩
    have H2 := Lib.hid (And.intro (H1.out.1.keep hg) (And.intro (H1.out.2.1.keep hg) (grownBy_trans H1.out.2.2 hg)))
    clear hg
    clear e0 e1 e2 e3 e4 e5 e6 e7
    by_cases hr3 : r2 < 0
    · go_wp2_with fail
      go_ret
      exact ⟨rfl, below_new H2.out.2.2⟩
    · have hls := hr2 (by omega)
      have HRG := Lib.hid (fun (W : World) (hg : w.grownBy W none) => HL.out.2.2.2.kept hg)
      clear hr2
      go_upto_region 8 with fail
      go_cut [6] (fun s6 wx => ∃ B : Nat, s6 = .pointer (some ⟨B, 0, none⟩) ∧ Bx wx B 30 #[.int .i64 a0_0, .int .i64 a1_0, .int .i64 a0_1, .int .i64 a1_1] ∧ w2.grownBy wx none)
      case first =>
        have a0 := H2.out.1.c 0 (x := .int .i64 a0_0) rfl
        have a1 := H2.out.1.c 1 (x := .int .i64 a0_1) rfl
        have a2 := H2.out.1.c 2 (x := .int .i64 a0_2) rfl
        have a3 := H2.out.1.c 3 (x := .int .i64 a0_3) rfl
        have a4 := H2.out.1.c 4 (x := .int .i64 a0_4) rfl
        have a5 := H2.out.1.c 5 (x := .string ⟨xb.toArray⟩) rfl
        have e0 := H2.out.2.1.c 0 (x := .int .i64 a1_0) rfl
        have e1 := H2.out.2.1.c 1 (x := .int .i64 a1_1) rfl
        have e2 := H2.out.2.1.c 2 (x := .int .i64 a1_2) rfl
        have e3 := H2.out.2.1.c 3 (x := .int .i64 a1_3) rfl
        have e4 := H2.out.2.1.c 4 (x := .int .i64 a1_4) rfl
        have e5 := H2.out.2.1.c 5 (x := .int .i64 a1_5) rfl
        have e6 := H2.out.2.1.c 6 (x := .slice a1_6 l1_6.length cap1_6) rfl
        have e7 := H2.out.2.1.c 7 (x := .string ⟨yb.toArray⟩) rfl
        have la := H2.out.1.lt
        have le := H2.out.2.1.lt
        go_region_with (first | (go_at_call 9; refine (to_ip a0_0 a0_1 a0_2 a0_3 a0_4 xb _).mono ?_; rintro e w3 ⟨rfl, hg⟩; have G2 := Lib.hid (show w2.grownBy w3 none from (by first | with_reducible exact hg | with_reducible exact grownBy_trans grownBy_drew hg | with_reducible exact grownBy_trans (World.grownBy_alloc _ _ _) hg | with_reducible exact grownBy_trans grownBy_drew (grownBy_trans (World.grownBy_alloc _ _ _) hg) | with_reducible exact grownBy_trans (World.grownBy_alloc _ _ _) (grownBy_trans grownBy_drew hg))); (first | have va := Lib.hid ((Bx.new _ 30 #[.int .i64 0, .int .i64 0, .int .i64 0, .int .i64 0]).keep hg) | have va := Lib.hid (((Bx.new _ 30 #[.int .i64 0, .int .i64 0, .int .i64 0, .int .i64 0]).keep (grownBy_drew (r := none))).keep hg) | skip); clear hg; have e0 := ((H2.out.2.1).keep G2.out).c 0 (x := .int .i64 a1_0) rfl; have e1 := ((H2.out.2.1).keep G2.out).c 1 (x := .int .i64 a1_1) rfl; have e2 := ((H2.out.2.1).keep G2.out).c 2 (x := .int .i64 a1_2) rfl; have e3 := ((H2.out.2.1).keep G2.out).c 3 (x := .int .i64 a1_3) rfl; have e4 := ((H2.out.2.1).keep G2.out).c 4 (x := .int .i64 a1_4) rfl; have e5 := ((H2.out.2.1).keep G2.out).c 5 (x := .int .i64 a1_5) rfl; have e6 := ((H2.out.2.1).keep G2.out).c 6 (x := .slice a1_6 l1_6.length cap1_6) rfl; have e7 := ((H2.out.2.1).keep G2.out).c 7 (x := .string ⟨yb.toArray⟩) rfl; have le := ((H2.out.2.1).keep G2.out).lt) | (go_at_call 10; refine (to_tcp a1_0 a1_1 a1_2 a1_3 a1_4 a1_5 a1_6 cap1_6 l1_6 yb _ (HRG.out _ (grownBy_trans H2.out.2.2 (grownBy_trans G2.out (by first | with_reducible exact World.grownBy.refl _ _ | with_reducible exact grownBy_drew | with_reducible exact World.grownBy_alloc _ _ none | with_reducible exact grownBy_trans grownBy_drew (World.grownBy_alloc _ _ none) | with_reducible exact grownBy_trans (World.grownBy_alloc _ _ none) grownBy_drew)))) hls).mono ?_; rintro e w4 ⟨qq, rfl, hg, hq⟩; have G3 := Lib.hid (show w3.grownBy w4 none from (by first | with_reducible exact hg | with_reducible exact grownBy_trans grownBy_drew hg | with_reducible exact grownBy_trans (World.grownBy_alloc _ _ _) hg | with_reducible exact grownBy_trans grownBy_drew (grownBy_trans (World.grownBy_alloc _ _ _) hg) | with_reducible exact grownBy_trans (World.grownBy_alloc _ _ _) (grownBy_trans grownBy_drew hg))); (first | have vb := Lib.hid ((Bx.new _ 30 #[.int .i64 0, .int .i64 0, .int .i64 0, .int .i64 0]).keep hg) | have vb := Lib.hid (((Bx.new _ 30 #[.int .i64 0, .int .i64 0, .int .i64 0, .int .i64 0]).keep (grownBy_drew (r := none))).keep hg) | have vb := Lib.hid (va.out.keep hg) | skip); clear hg hq) | (go_at_call 8; refine (key_spec a0_0 a0_1 a0_2 a0_3 a0_4 xb a1_0 a1_1 a1_2 a1_3 a1_4 a1_5 _ _ l1_6 yb _).mono ?_; rintro e w5 ⟨rfl, hg⟩; have G4 := Lib.hid (show w4.grownBy w5 none from (by first | with_reducible exact hg | with_reducible exact grownBy_trans grownBy_drew hg | with_reducible exact grownBy_trans (World.grownBy_alloc _ _ _) hg | with_reducible exact grownBy_trans grownBy_drew (grownBy_trans (World.grownBy_alloc _ _ _) hg) | with_reducible exact grownBy_trans (World.grownBy_alloc _ _ _) (grownBy_trans grownBy_drew hg))); (first | have vc := Lib.hid ((Bx.new _ 30 #[.int .i64 0, .int .i64 0, .int .i64 0, .int .i64 0]).keep hg) | have vc := Lib.hid (((Bx.new _ 30 #[.int .i64 0, .int .i64 0, .int .i64 0, .int .i64 0]).keep (grownBy_drew (r := none))).keep hg) | have vc := Lib.hid (vb.out.keep hg) | skip); clear hg; try (have q0 := vc.out.c 0 (x := .int .i64 0) rfl; have q1 := vc.out.c 1 (x := .int .i64 0) rfl; have q2 := vc.out.c 2 (x := .int .i64 0) rfl; have q3 := vc.out.c 3 (x := .int .i64 0) rfl; have qf0 := vc.out.f 0; have qf1 := vc.out.f 1; have qf2 := vc.out.f 2; have qf3 := vc.out.f 3)))
        all_goals
          go_wp2_with fail
          go_meet
          have G5 := grownBy_trans (grownBy_trans G2.out G3.out) G4.out
          first
            | exact ⟨_, rfl, by with_reducible exact Bx.new _ _ _, by with_reducible exact grownBy_trans G5 (World.grownBy_alloc _ _ none)⟩
            | exact ⟨_, rfl, by with_reducible exact set4 vc.out _ _ _ _ , by with_reducible exact gset4 G5 la⟩
            | exact ⟨_, rfl, by with_reducible exact set4 vc.out _ _ _ _ , by with_reducible exact gset4 G5 (by have := G2.out.size; omega)⟩
            | exact ⟨_, rfl, by with_reducible exact set4 vc.out _ _ _ _ , by with_reducible exact gset4 G5 (by have := G2.out.size; have := G3.out.size; omega)⟩
            | exact ⟨_, rfl, by with_reducible exact set4 vc.out _ _ _ _ , by with_reducible exact gset4 G5 (by have := G2.out.size; have := G3.out.size; have := G4.out.size; omega)⟩
            | exact ⟨_, rfl, by with_reducible exact set4 vc.out _ _ _ _ , by with_reducible exact gset4 G5 (Nat.le_refl _)⟩
      case rest =>
        obtain ⟨B, rfl, hbx, hg⟩ := hcut
        have H5 := Lib.hid (And.intro (H2.out.1.keep hg) (And.intro (H2.out.2.1.keep hg) (And.intro hbx (grownBy_trans H2.out.2.2 hg))))
        clear hg hbx
        generalize hwc : wc = w5 at *
        clear hwc
        have e0 := H5.out.2.1.c 0 (x := .int .i64 a1_0) rfl
        have e1 := H5.out.2.1.c 1 (x := .int .i64 a1_1) rfl
        have e2 := H5.out.2.1.c 2 (x := .int .i64 a1_2) rfl
        have e3 := H5.out.2.1.c 3 (x := .int .i64 a1_3) rfl
        have e4 := H5.out.2.1.c 4 (x := .int .i64 a1_4) rfl
        have e5 := H5.out.2.1.c 5 (x := .int .i64 a1_5) rfl
        have e6 := H5.out.2.1.c 6 (x := .slice a1_6 l1_6.length cap1_6) rfl
        have e7 := H5.out.2.1.c 7 (x := .string ⟨yb.toArray⟩) rfl
        have le := H5.out.2.1.lt
        go_wp2_with fail
        refine (to_tcp a1_0 a1_1 a1_2 a1_3 a1_4 a1_5 a1_6 cap1_6 l1_6 yb _ (HRG.out _ H5.out.2.2.2) hls).mono ?_
        rintro e w6 ⟨qq, rfl, hg, hq⟩
        have H6 := Lib.hid (And.intro ((H5.out.1.keep hg).alloc (.cells #[.int .i64 a1_0, .int .i64 a1_1, .int .i64 a1_2, .int .i64 a1_3, .int .i64 a1_4, .int .i64 a1_5, .slice (some ⟨qq, 0, none⟩) l1_6.length l1_6.length, .string ⟨yb.toArray⟩] 36)) (And.intro ((H5.out.2.1.keep hg).alloc (.cells #[.int .i64 a1_0, .int .i64 a1_1, .int .i64 a1_2, .int .i64 a1_3, .int .i64 a1_4, .int .i64 a1_5, .slice (some ⟨qq, 0, none⟩) l1_6.length l1_6.length, .string ⟨yb.toArray⟩] 36)) (And.intro ((H5.out.2.2.1.keep hg).alloc (.cells #[.int .i64 a1_0, .int .i64 a1_1, .int .i64 a1_2, .int .i64 a1_3, .int .i64 a1_4, .int .i64 a1_5, .slice (some ⟨qq, 0, none⟩) l1_6.length l1_6.length, .string ⟨yb.toArray⟩] 36)) (And.intro (Bx.new w6 36 #[.int .i64 a1_0, .int .i64 a1_1, .int .i64 a1_2, .int .i64 a1_3, .int .i64 a1_4, .int .i64 a1_5, .slice (some ⟨qq, 0, none⟩) l1_6.length l1_6.length, .string ⟨yb.toArray⟩]) (And.intro (hq.kept (World.grownBy_alloc w6 (.cells #[.int .i64 a1_0, .int .i64 a1_1, .int .i64 a1_2, .int .i64 a1_3, .int .i64 a1_4, .int .i64 a1_5, .slice (some ⟨qq, 0, none⟩) l1_6.length l1_6.length, .string ⟨yb.toArray⟩] 36) none)) (gA (grownBy_trans H5.out.2.2.2 hg) (.cells #[.int .i64 a1_0, .int .i64 a1_1, .int .i64 a1_2, .int .i64 a1_3, .int .i64 a1_4, .int .i64 a1_5, .slice (some ⟨qq, 0, none⟩) l1_6.length l1_6.length, .string ⟨yb.toArray⟩] 36)))))))
        clear hg hq e0 e1 e2 e3 e4 e5 e6 e7 le
        go_upto_region 10 with fail
        generalize w6.heap.size = X at *
        generalize w6.alloc (.cells #[.int .i64 a1_0, .int .i64 a1_1, .int .i64 a1_2, .int .i64 a1_3, .int .i64 a1_4, .int .i64 a1_5, .slice (some ⟨qq, 0, none⟩) l1_6.length l1_6.length, .string ⟨yb.toArray⟩] 36) = w7 at *
        go_cut [8] (fun s8 wx => ∃ B2 : Nat, s8 = .pointer (some ⟨B2, 0, none⟩) ∧ Bx wx B2 30 #[.int .i64 a0_0, .int .i64 a1_0, .int .i64 a0_1, .int .i64 a1_1] ∧ w7.grownBy wx none)
        case first =>
          have a0 := H6.out.1.c 0 (x := .int .i64 a0_0) rfl
          have a1 := H6.out.1.c 1 (x := .int .i64 a0_1) rfl
          have a2 := H6.out.1.c 2 (x := .int .i64 a0_2) rfl
          have a3 := H6.out.1.c 3 (x := .int .i64 a0_3) rfl
          have a4 := H6.out.1.c 4 (x := .int .i64 a0_4) rfl
          have a5 := H6.out.1.c 5 (x := .string ⟨xb.toArray⟩) rfl
          have x0 := H6.out.2.2.2.1.c 0 (x := .int .i64 a1_0) rfl
          have x1 := H6.out.2.2.2.1.c 1 (x := .int .i64 a1_1) rfl
          have x2 := H6.out.2.2.2.1.c 2 (x := .int .i64 a1_2) rfl
          have x3 := H6.out.2.2.2.1.c 3 (x := .int .i64 a1_3) rfl
          have x4 := H6.out.2.2.2.1.c 4 (x := .int .i64 a1_4) rfl
          have x5 := H6.out.2.2.2.1.c 5 (x := .int .i64 a1_5) rfl
          have x6 := H6.out.2.2.2.1.c 6 (x := .slice (some ⟨qq, 0, none⟩) l1_6.length l1_6.length) rfl
          have x7 := H6.out.2.2.2.1.c 7 (x := .string ⟨yb.toArray⟩) rfl
          have la := H6.out.1.lt
          have lx := H6.out.2.2.2.1.lt
          go_region_with (first | (go_at_call 9; refine (to_ip a0_0 a0_1 a0_2 a0_3 a0_4 xb _).mono ?_; rintro e w8 ⟨rfl, hg⟩; have G2 := Lib.hid (show w7.grownBy w8 none from (by first | with_reducible exact hg | with_reducible exact grownBy_trans grownBy_drew hg | with_reducible exact grownBy_trans (World.grownBy_alloc _ _ _) hg | with_reducible exact grownBy_trans grownBy_drew (grownBy_trans (World.grownBy_alloc _ _ _) hg) | with_reducible exact grownBy_trans (World.grownBy_alloc _ _ _) (grownBy_trans grownBy_drew hg))); (first | have va := Lib.hid ((Bx.new _ 30 #[.int .i64 0, .int .i64 0, .int .i64 0, .int .i64 0]).keep hg) | have va := Lib.hid (((Bx.new _ 30 #[.int .i64 0, .int .i64 0, .int .i64 0, .int .i64 0]).keep (grownBy_drew (r := none))).keep hg) | skip); clear hg; have x0 := ((H6.out.2.2.2.1).keep G2.out).c 0 (x := .int .i64 a1_0) rfl; have x1 := ((H6.out.2.2.2.1).keep G2.out).c 1 (x := .int .i64 a1_1) rfl; have x2 := ((H6.out.2.2.2.1).keep G2.out).c 2 (x := .int .i64 a1_2) rfl; have x3 := ((H6.out.2.2.2.1).keep G2.out).c 3 (x := .int .i64 a1_3) rfl; have x4 := ((H6.out.2.2.2.1).keep G2.out).c 4 (x := .int .i64 a1_4) rfl; have x5 := ((H6.out.2.2.2.1).keep G2.out).c 5 (x := .int .i64 a1_5) rfl; have x6 := ((H6.out.2.2.2.1).keep G2.out).c 6 (x := .slice (some ⟨qq, 0, none⟩) l1_6.length l1_6.length) rfl; have x7 := ((H6.out.2.2.2.1).keep G2.out).c 7 (x := .string ⟨yb.toArray⟩) rfl; have lx := ((H6.out.2.2.2.1).keep G2.out).lt) | (go_at_call 11; refine (key_impl a0_0 a0_1 a0_2 a0_3 a0_4 xb a1_0 a1_1 a1_2 a1_3 a1_4 a1_5 _ _ l1_6 yb _).mono ?_; rintro e w9 ⟨rfl, hg⟩; have G4 := Lib.hid (show w8.grownBy w9 none from (by first | with_reducible exact hg | with_reducible exact grownBy_trans grownBy_drew hg | with_reducible exact grownBy_trans (World.grownBy_alloc _ _ _) hg | with_reducible exact grownBy_trans grownBy_drew (grownBy_trans (World.grownBy_alloc _ _ _) hg) | with_reducible exact grownBy_trans (World.grownBy_alloc _ _ _) (grownBy_trans grownBy_drew hg))); (first | have vc := Lib.hid ((Bx.new _ 30 #[.int .i64 0, .int .i64 0, .int .i64 0, .int .i64 0]).keep hg) | have vc := Lib.hid (((Bx.new _ 30 #[.int .i64 0, .int .i64 0, .int .i64 0, .int .i64 0]).keep (grownBy_drew (r := none))).keep hg) | have vc := Lib.hid (va.out.keep hg) | skip); clear hg; try (have q0 := vc.out.c 0 (x := .int .i64 0) rfl; have q1 := vc.out.c 1 (x := .int .i64 0) rfl; have q2 := vc.out.c 2 (x := .int .i64 0) rfl; have q3 := vc.out.c 3 (x := .int .i64 0) rfl; have qf0 := vc.out.f 0; have qf1 := vc.out.f 1; have qf2 := vc.out.f 2; have qf3 := vc.out.f 3)))
          all_goals
            go_wp2_with fail
            go_meet
            have G5 := grownBy_trans G2.out G4.out
            first
              | exact ⟨_, rfl, by with_reducible exact Bx.new _ _ _, by with_reducible exact grownBy_trans G5 (World.grownBy_alloc _ _ none)⟩
              | exact ⟨_, rfl, by with_reducible exact set4 vc.out _ _ _ _ , by with_reducible exact gset4 G5 la⟩
              | exact ⟨_, rfl, by with_reducible exact set4 vc.out _ _ _ _ , by with_reducible exact gset4 G5 (by have := G2.out.size; omega)⟩
              | exact ⟨_, rfl, by with_reducible exact set4 vc.out _ _ _ _ , by with_reducible exact gset4 G5 (Nat.le_refl _)⟩
        case rest =>
          obtain ⟨B2, rfl, hbx, hg⟩ := hcut
          have H9 := Lib.hid (And.intro (H6.out.2.1.keep hg) (And.intro (H6.out.2.2.1.keep hg) (And.intro (H6.out.2.2.2.1.keep hg) (And.intro (H6.out.2.2.2.2.1.kept hg) (And.intro hbx (grownBy_trans H6.out.2.2.2.2.2 hg))))))
          clear hg hbx
          generalize hwc : wc = w10 at *
          clear hwc
          have k0 := H9.out.2.1.c 0 (x := .int .i64 a0_0) rfl
          have k1 := H9.out.2.1.c 1 (x := .int .i64 a1_0) rfl
          have k2 := H9.out.2.1.c 2 (x := .int .i64 a0_1) rfl
          have k3 := H9.out.2.1.c 3 (x := .int .i64 a1_1) rfl
          have m0 := H9.out.2.2.2.2.1.c 0 (x := .int .i64 a0_0) rfl
          have m1 := H9.out.2.2.2.2.1.c 1 (x := .int .i64 a1_0) rfl
          have m2 := H9.out.2.2.2.2.1.c 2 (x := .int .i64 a0_1) rfl
          have m3 := H9.out.2.2.2.2.1.c 3 (x := .int .i64 a1_1) rfl
          have lk := H9.out.2.1.lt
          have lm := H9.out.2.2.2.2.1.lt
          go_wp2_with fail
          refine (eq_key a0_0 a1_0 a0_1 a1_1 _).mono ?_
          rintro e w11 ⟨rfl, hg⟩
          have H11 := Lib.hid (And.intro (H9.out.1.keep hg) (And.intro (H9.out.2.2.1.keep hg) (And.intro (H9.out.2.2.2.1.kept hg) (grownBy_trans H9.out.2.2.2.2.2 hg))))
          clear hg
          clear k0 k1 k2 k3
          clear m0 m1 m2 m3
          clear lk lm
          have e0 := H11.out.1.c 0 (x := .int .i64 a1_0) rfl
          have e1 := H11.out.1.c 1 (x := .int .i64 a1_1) rfl
          have e2 := H11.out.1.c 2 (x := .int .i64 a1_2) rfl
          have e3 := H11.out.1.c 3 (x := .int .i64 a1_3) rfl
          have e4 := H11.out.1.c 4 (x := .int .i64 a1_4) rfl
          have e5 := H11.out.1.c 5 (x := .int .i64 a1_5) rfl
          have e6 := H11.out.1.c 6 (x := .slice a1_6 l1_6.length cap1_6) rfl
          have e7 := H11.out.1.c 7 (x := .string ⟨yb.toArray⟩) rfl
          have x0 := H11.out.2.1.c 0 (x := .int .i64 a1_0) rfl
          have x1 := H11.out.2.1.c 1 (x := .int .i64 a1_1) rfl
          have x2 := H11.out.2.1.c 2 (x := .int .i64 a1_2) rfl
          have x3 := H11.out.2.1.c 3 (x := .int .i64 a1_3) rfl
          have x4 := H11.out.2.1.c 4 (x := .int .i64 a1_4) rfl
          have x5 := H11.out.2.1.c 5 (x := .int .i64 a1_5) rfl
          have x6 := H11.out.2.1.c 6 (x := .slice (some ⟨qq, 0, none⟩) l1_6.length l1_6.length) rfl
          have x7 := H11.out.2.1.c 7 (x := .string ⟨yb.toArray⟩) rfl
          have le := H11.out.1.lt
          have lx := H11.out.2.1.lt
          go_wp2_with fail
          go_region_with (first | (go_at_call 10; refine (to_tcp a1_0 a1_1 a1_2 a1_3 a1_4 a1_5 a1_6 cap1_6 l1_6 yb _ (HRG.out _ (grownBy_trans H11.out.2.2.2 (by first | with_reducible exact World.grownBy.refl _ _ | with_reducible exact grownBy_drew | with_reducible exact World.grownBy_alloc _ _ none | with_reducible exact grownBy_trans grownBy_drew (World.grownBy_alloc _ _ none) | with_reducible exact grownBy_trans (World.grownBy_alloc _ _ none) grownBy_drew))) hls).mono ?_; rintro e w12 ⟨q2, rfl, hg, hq⟩; have G2 := Lib.hid (show w11.grownBy w12 none from (by first | with_reducible exact hg | with_reducible exact grownBy_trans grownBy_drew hg | with_reducible exact grownBy_trans (World.grownBy_alloc _ _ _) hg | with_reducible exact grownBy_trans grownBy_drew (grownBy_trans (World.grownBy_alloc _ _ _) hg) | with_reducible exact grownBy_trans (World.grownBy_alloc _ _ _) (grownBy_trans grownBy_drew hg))); have HQ := Lib.hid hq; clear hg hq; have x0 := ((H11.out.2.1).keep G2.out).c 0 (x := .int .i64 a1_0) rfl; have x1 := ((H11.out.2.1).keep G2.out).c 1 (x := .int .i64 a1_1) rfl; have x2 := ((H11.out.2.1).keep G2.out).c 2 (x := .int .i64 a1_2) rfl; have x3 := ((H11.out.2.1).keep G2.out).c 3 (x := .int .i64 a1_3) rfl; have x4 := ((H11.out.2.1).keep G2.out).c 4 (x := .int .i64 a1_4) rfl; have x5 := ((H11.out.2.1).keep G2.out).c 5 (x := .int .i64 a1_5) rfl; have x6 := ((H11.out.2.1).keep G2.out).c 6 (x := .slice (some ⟨qq, 0, none⟩) l1_6.length l1_6.length) rfl; have x7 := ((H11.out.2.1).keep G2.out).c 7 (x := .string ⟨yb.toArray⟩) rfl; have lx := ((H11.out.2.1).keep G2.out).lt) | (go_at_call 13; refine (eq_tcp a1_0 a1_1 a1_2 a1_3 a1_4 a1_5 _ _ _ _ l1_6 yb _ ((H11.out.2.2.1.kept G2.out).kept (by first | with_reducible exact World.grownBy.refl _ _ | with_reducible exact grownBy_drew | with_reducible exact World.grownBy_alloc _ _ none | with_reducible exact grownBy_trans grownBy_drew (World.grownBy_alloc _ _ none) | with_reducible exact grownBy_trans (World.grownBy_alloc _ _ none) grownBy_drew)) (HQ.out.kept (by first | with_reducible exact World.grownBy.refl _ _ | with_reducible exact grownBy_drew | with_reducible exact World.grownBy_alloc _ _ none | with_reducible exact grownBy_trans grownBy_drew (World.grownBy_alloc _ _ none) | with_reducible exact grownBy_trans (World.grownBy_alloc _ _ none) grownBy_drew)) hls).mono ?_; rintro e w13 ⟨rfl, hg⟩; have G3 := Lib.hid (show w12.grownBy w13 none from (by first | with_reducible exact hg | with_reducible exact grownBy_trans grownBy_drew hg | with_reducible exact grownBy_trans (World.grownBy_alloc _ _ _) hg | with_reducible exact grownBy_trans grownBy_drew (grownBy_trans (World.grownBy_alloc _ _ _) hg) | with_reducible exact grownBy_trans (World.grownBy_alloc _ _ _) (grownBy_trans grownBy_drew hg))); clear hg))
          all_goals
            go_wp2_with fail
            go_ret
            exact ⟨rfl, below_new (grownBy_trans H11.out.2.2.2 (grownBy_trans G2.out G3.out))⟩

set_option maxRecDepth 100000 in
theorem lifted (os : Os) (started : os.Started) (H : Type) (enc : TypeId × Value → H) :
    ReturnsInHanded {} Try.checked os 3 .any (Rows.fnExactKeyOfSpec.pre6 enc Try.prog Try.f3 Rows.fnExactKeyOfRow.domain false) (Rows.fnExactKeyOfSpec.post enc Try.prog Try.f3 false true false false) := by
  refine returnsInHanded_of_change (C := Try.checked) own started (by kernel_rfl) Try.func3
    (ChangeSpec.witness6 (enc := enc) (C := Try.checked) false ⟨#[], #[.agg #[.int .i64 0, .int .i64 0, .int .i64 0, .int .i64 0, .int .i64 0, .string ByteArray.empty], .agg #[.int .i64 0, .int .i64 0, .int .i64 0, .int .i64 0, .int .i64 0, .int .i64 0, .slice none 0 0, .string ByteArray.empty]], []⟩ 8 (by kernel_rfl) (by kernel_rfl) (by kernel_rfl) (by kernel_rfl)) ?_
  intro W base args ds gs before hval0 hW hcnd _
  have hval : ∀ (j : Nat) t v, Try.f3.params[j]? = some t → args[j]? = some v → Value.okWide Try.prog W .any base t v := hval0
  have hW' := hW
  obtain ⟨p, q, hA0, hV, rfl, hfz, hnd⟩ := hW
  have hA : DataW.TrodAll enc Try.prog W 0 (fun _ => true) true Try.f3.params.toList args.toList ds p := hA0
  rw [Try.params3] at hA hval
  obtain ⟨v0, vs0, d0, ds0, p0, q0, hargs, rfl, rfl, h0, r0⟩ := trodAll_cons hA
  obtain ⟨v1, vs1, d1, ds1, p1, q1, rfl, rfl, rfl, h1, r1⟩ := trodAll_cons r0
  obtain ⟨rfl, rfl, rfl⟩ := trodAll_nil r1
  obtain rfl : args = #[v0, v1] := by cases args; simp_all
  obtain ⟨rfl, rfl⟩ := trodVars_none hV
  have k0 := h0
  have lt0 : ∀ x ∈ p0, x.block < W.heap.size := by obtain ⟨m, hm⟩ := k0; exact DataW.trod_lt m _ _ _ hm
  obtain ⟨c0_0, c0_1, c0_2, c0_3, c0_4, c0_5, y0_0, y0_1, y0_2, y0_3, y0_4, y0_5, m0, rfl, rfl, rfl, hy0_0, hy0_1, hy0_2, hy0_3, hy0_4, hy0_5⟩ := open_agg6 Try.underlying23 (by kernel_rfl) cells23 (hval 0 23 v0 rfl rfl) h0
  obtain ⟨a0_0, e0_0, rfl, w0_0⟩ := DataW.trod_int Try.underlying2 hy0_0
  simp only [List.cons.injEq, and_true] at e0_0
  subst e0_0
  obtain ⟨a0_1, e0_1, rfl, w0_1⟩ := DataW.trod_int Try.underlying2 hy0_1
  simp only [List.cons.injEq, and_true] at e0_1
  subst e0_1
  obtain ⟨a0_2, e0_2, rfl, w0_2⟩ := DataW.trod_int Try.underlying2 hy0_2
  simp only [List.cons.injEq, and_true] at e0_2
  subst e0_2
  obtain ⟨a0_3, e0_3, rfl, w0_3⟩ := DataW.trod_int Try.underlying2 hy0_3
  simp only [List.cons.injEq, and_true] at e0_3
  subst e0_3
  obtain ⟨a0_4, e0_4, rfl, w0_4⟩ := DataW.trod_int Try.underlying2 hy0_4
  simp only [List.cons.injEq, and_true] at e0_4
  subst e0_4
  obtain ⟨a0_5, e0_5, rfl, w0_5⟩ := DataW.trod_string Try.underlying9 hy0_5
  simp only [List.cons.injEq, and_true] at e0_5
  subst e0_5
  have k1 := h1
  have lt1 : ∀ x ∈ p1, x.block < W.heap.size := by obtain ⟨m, hm⟩ := k1; exact DataW.trod_lt m _ _ _ hm
  obtain ⟨c1_0, c1_1, c1_2, c1_3, c1_4, c1_5, c1_6, c1_7, y1_0, y1_1, y1_2, y1_3, y1_4, y1_5, y1_6, y1_7, m1, rfl, rfl, rfl, hy1_0, hy1_1, hy1_2, hy1_3, hy1_4, hy1_5, hy1_6, hy1_7⟩ := open_agg8 Try.underlying26 (by kernel_rfl) cells26 (hval 1 26 v1 rfl rfl) h1
  obtain ⟨a1_0, e1_0, rfl, w1_0⟩ := DataW.trod_int Try.underlying2 hy1_0
  simp only [List.cons.injEq, and_true] at e1_0
  subst e1_0
  obtain ⟨a1_1, e1_1, rfl, w1_1⟩ := DataW.trod_int Try.underlying2 hy1_1
  simp only [List.cons.injEq, and_true] at e1_1
  subst e1_1
  obtain ⟨a1_2, e1_2, rfl, w1_2⟩ := DataW.trod_int Try.underlying2 hy1_2
  simp only [List.cons.injEq, and_true] at e1_2
  subst e1_2
  obtain ⟨a1_3, e1_3, rfl, w1_3⟩ := DataW.trod_int Try.underlying2 hy1_3
  simp only [List.cons.injEq, and_true] at e1_3
  subst e1_3
  obtain ⟨a1_4, e1_4, rfl, w1_4⟩ := DataW.trod_int Try.underlying2 hy1_4
  simp only [List.cons.injEq, and_true] at e1_4
  subst e1_4
  obtain ⟨a1_5, e1_5, rfl, w1_5⟩ := DataW.trod_int Try.underlying2 hy1_5
  simp only [List.cons.injEq, and_true] at e1_5
  subst e1_5
  obtain ⟨a1_6, len1_6, cap1_6, e1_6⟩ := slice_form Try.underlying24 hy1_6
  simp only [List.cons.injEq, and_true] at e1_6
  subst e1_6
  obtain ⟨l1_6, e1_6, w1_6, n1_6⟩ : ∃ l : List Rg, l.length = len1_6 ∧ RgAt W a1_6 l ∧ l.length ≤ maxLen := by
    rcases Deep.open_slice_pairs Try.underlying24 Try.underlying84 cells84 rfl rfl (by kernel_rfl) (by kernel_rfl) hy1_6 with ⟨hcs, _⟩ | ⟨x, l, c, m, n, V0, V1, D0, D1, P0, P1, hcs, _, hl, hm, hmm, _, hall⟩
    · simp at hcs
      obtain ⟨rfl, rfl, rfl⟩ := hcs
      exact ⟨[], rfl, .inl rfl, Nat.zero_le _⟩
    · simp at hcs
      obtain ⟨rfl, rfl, rfl⟩ := hcs
      have hmc : m = cap1_6 := by simpa using hmm
      obtain ⟨ps, hlen, hps⟩ := list_of (P := fun i (p : Rg) => W.cell? (x.add (i * 2)) = some (.int .i64 p.1) ∧ W.cell? (x.add (i * 2 + 1)) = some (.int .i64 p.2)) len1_6 (fun i hi => by
        obtain ⟨c0, c1, t0, t1⟩ := hall i (by omega)
        obtain ⟨u, e0, _, wu⟩ := DataW.trod_int Try.underlying2 t0
        obtain ⟨s, e1, _, ws⟩ := DataW.trod_int Try.underlying2 t1
        simp only [List.cons.injEq, and_true] at e0 e1
        rw [e0] at c0
        rw [e1] at c1
        exact ⟨(u, s), c0, c1⟩)
      exact ⟨ps, hlen, rgAt_of fun i hi => ⟨(hps i hi).1, (hps i hi).2⟩, by omega⟩
  subst e1_6
  obtain ⟨a1_7, e1_7, rfl, w1_7⟩ := DataW.trod_string Try.underlying9 hy1_7
  simp only [List.cons.injEq, and_true] at e1_7
  subst e1_7
  clear hA0 hval0
  refine (walk a0_0 a0_1 a0_2 a0_3 a0_4 a0_5 a1_0 a1_1 a1_2 a1_3 a1_4 a1_5 a1_6 cap1_6 l1_6 a1_7 W w0_0 w0_1 w0_2 w0_3 w0_4 w0_5 w1_0 w1_1 w1_2 w1_3 w1_4 w1_5 w1_6 n1_6 w1_7).mono fun e W' ⟨he, bel⟩ => ?_
  subst he
  exact ⟨_, rfl, _, _, _, [], _, [], hW', trodAll_mk1 (shut_bool Try.underlying4 _), (trodAll_cons_mk (Below.trod laidOut (by kernel_rfl) (of_decide_eq_true (by kernel_rfl)) k0 bel lt0) (trodAll_cons_mk (Below.trod laidOut (by kernel_rfl) (of_decide_eq_true (by kernel_rfl)) k1 bel lt1) trodAll_mk0)), rfl, bel.frame _, fun h => by cases h⟩

theorem over : Rows.fnExactKeyOfRow.holds Try.pinned (OpenSpec.ofChange Rows.fnExactKeyOfSpec) :=
  OpenClaim.holds_of_wide 3 Try.f3 rfl rfl rfl rfl rfl rfl rfl ⟨rfl, rfl, rfl, rfl, rfl⟩ rfl rfl rfl rfl rfl (by kernel_rfl) Try.func3 (by kernel_rfl)
    (of_decide_eq_true (by kernel_rfl)) (by unfold Func.isWrapper; first | (rw [if_pos (by decide +kernel)]; kernel_rfl) | (rw [if_neg (by decide +kernel)]; exact ⟨rfl, rfl⟩))
    (fun os started H enc _ => lifted os started H enc)

theorem proved : Rows.FnExactKeyOfSaid := over
end Go.Proofs.Ytihaamgimakcoaa.fnExactKeyOf
