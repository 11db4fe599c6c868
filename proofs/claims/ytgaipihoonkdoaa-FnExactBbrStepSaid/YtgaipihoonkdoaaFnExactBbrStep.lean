/- For every state of a pipe and every sample the law FnExactBbrStep answers true and leaves its arguments as they were; no condition. -/
import Derived.Test.YtgaipihoonkdoaaRows
import Derived.Test.YtgaipihoonkdoaaDraw
import Derived.Test.YtgaipihoonkdoaaBbL
import Derived.Test.YtgaipihoonkdoaaBbV
import Derived.Test.YtgaipihoonkdoaaAgg
import Derived.WalkKit
import Derived.ProofKit
import Derived.OpenShut
import Derived.ShutString
import Derived.ChangeOld
import Derived.Below
import Derived.Lib.SmallJoins
import Derived.Deep.SlicePairs
namespace Go.Proofs.Ytgaipihoonkdoaa.fnExactBbrStep
open Go.ChangeShapes Go.WideShapes Go.ChangeAt Go.RowKit Go.Joins
open Go.ChangeMaps (open_string shut_string)
set_option linter.unusedVariables false

theorem own : ownKnob Try.prog.godebug = none := by kernel_rfl
theorem laidOut : laidOutB Try.prog = true := by kernel_rfl
theorem cells46 : Try.prog.cellsOf 46 = 6 := by kernel_rfl
theorem cells30 : Try.prog.cellsOf 30 = 2 := by kernel_rfl

theorem dummy : True := trivial

set_option maxRecDepth 100000 in
set_option maxHeartbeats 8000000 in
theorem walk (a0_0 : Int) (a0_1 : Option Addr) (cap0_1 : Nat) (l0_1 : List Rg) (a0_2 : Int) (a0_3 : Int) (a0_4 : Int) (a0_5 : Int) (a1_0 : Int) (a1_1 : Int) (a2 : Int) (a3 : Int) (w : World) (w0_0 : (Lit.int .i64 a0_0).wf = true) (w0_1 : RgAt w a0_1 l0_1) (n0_1 : l0_1.length ≤ maxLen) (w0_2 : (Lit.int .i64 a0_2).wf = true) (w0_3 : (Lit.int .i64 a0_3).wf = true) (w0_4 : (Lit.int .i64 a0_4).wf = true) (w0_5 : (Lit.int .i64 a0_5).wf = true) (w1_0 : (Lit.int .i64 a1_0).wf = true) (w1_1 : (Lit.int .i64 a1_1).wf = true) (w2 : (Lit.int .i64 a2).wf = true) (w3 : (Lit.int .i64 a3).wf = true) :
    Calls Try.prog 8 #[.agg #[.int .i64 a0_0, .slice a0_1 l0_1.length cap0_1, .int .i64 a0_2, .int .i64 a0_3, .int .i64 a0_4, .int .i64 a0_5], .agg #[.int .i64 a1_0, .int .i64 a1_1], .int .i64 a2, .int .i64 a3] w fun e w' => e = .returned (.bool true) ∧ Below w.heap.size w w' := by
  unfold maxLen at n0_1
  have HB := Lib.hid (two_new w (bbC a0_0 a0_1 l0_1.length cap0_1 a0_2 a0_3 a0_4 a0_5) a1_0 a1_1)
  have HA := Lib.hid (w0_1.kept HB.out.g)
  clear w0_1 w0_0 w0_2 w0_3 w0_4 w0_5
  go_enter Try.func8, Try.ntmps8
  go_wp2_with fail
  generalize (w.alloc (.cells (bbC a0_0 a0_1 l0_1.length cap0_1 a0_2 a0_3 a0_4 a0_5) 46)).alloc (.cells #[.int .i64 a1_0, .int .i64 a1_1] 30) = wb at *
  refine (sz_bbr _ _ _ _ _ _ _ _ _ (by omega)).mono ?_
  rintro e w1 ⟨⟨q, rfl, hq⟩, hg⟩
  have H1 := Lib.hid (And.intro (HB.out.keep hg) (HA.out.kept hg))
  clear hg
  by_cases hq0 : q < 0
  · go_wp2_with fail
    go_ret
    exact ⟨rfl, below_new H1.out.1.g⟩
  · have hl : l0_1.length ≤ 1048576 := hq (by omega)
    clear hq HB HA
    obtain ⟨D, hD⟩ : ∃ D, stepOk (⟨a0_0, l0_1, a0_2, a0_3, a0_4, a0_5⟩ : Bb) (a1_0, a1_1) a2 a3 = D := ⟨_, rfl⟩
    have hLL := step_len (⟨a0_0, l0_1, a0_2, a0_3, a0_4, a0_5⟩ : Bb) (a1_0, a1_1) a2 a3
    obtain ⟨U, hU⟩ : ∃ U, stepB (⟨a0_0, l0_1, a0_2, a0_3, a0_4, a0_5⟩ : Bb) (a1_0, a1_1) a2 a3 = U := ⟨_, rfl⟩
    rw [hU] at hLL
    obtain ⟨P, L, R, F, S, T⟩ := U
    replace hLL : L.length ≤ 100 := hLL
    have HSS := Lib.hid (show ∀ (W : World) (b : Option Addr) (cb : Nat), RgAt W b l0_1 → Calls Try.prog 36 #[bbV a0_0 b l0_1.length cb a0_2 a0_3 a0_4 a0_5, .agg #[.int .i64 a1_0, .int .i64 a1_1], .int .i64 a2, .int .i64 a3] W (fun e w' => ∃ a c, e = .returned (.tuple #[bbV P a L.length c R F S T, .bool D]) ∧ W.grownBy w' none ∧ OwnRg w' W.heap.size a c L) from fun W b cb h => by have hq := step_spec a0_0 b cb l0_1 a0_2 a0_3 a0_4 a0_5 a1_0 a1_1 a2 a3 W h hl; rw [hU, hD] at hq; exact hq)
    have HSI := Lib.hid (show ∀ (W : World) (b : Option Addr) (cb : Nat), RgAt W b l0_1 → Calls Try.prog 37 #[bbV a0_0 b l0_1.length cb a0_2 a0_3 a0_4 a0_5, .agg #[.int .i64 a1_0, .int .i64 a1_1], .int .i64 a2, .int .i64 a3] W (fun e w' => ∃ a c, e = .returned (.tuple #[bbV P a L.length c R F S T, .bool D]) ∧ W.grownBy w' none ∧ OwnRg w' W.heap.size a c L) from fun W b cb h => by have hq := step_impl a0_0 b cb l0_1 a0_2 a0_3 a0_4 a0_5 a1_0 a1_1 a2 a3 W h hl; rw [hU, hD] at hq; exact hq)
    clear hU hD
    go_upto_region 5 with fail
    go_cut [10, 11] (fun s10 s11 wx => ∃ (B : Nat) (a : Option Addr) (c : Nat), s10 = .pointer (some ⟨B, 0, none⟩) ∧ s11 = .bool D ∧ Res w1 wx B a c P L R F S T)
    case first =>
      have p0 := (H1.out.1.b).c 0 rfl
      have p1 := (H1.out.1.b).c 1 rfl
      have p2 := (H1.out.1.b).c 2 rfl
      have p3 := (H1.out.1.b).c 3 rfl
      have p4 := (H1.out.1.b).c 4 rfl
      have p5 := (H1.out.1.b).c 5 rfl
      have p6 := (H1.out.1.x).c 0 rfl
      have p7 := (H1.out.1.x).c 1 rfl
      refine wp_region_held_drew (S := fun w' => w'.cell? ⟨w.heap.size, 0, none⟩ = some (.int .i64 a0_0) ∧ w'.cell? ⟨w.heap.size, 1, none⟩ = some (.slice a0_1 l0_1.length cap0_1) ∧ w'.cell? ⟨w.heap.size, 2, none⟩ = some (.int .i64 a0_2) ∧ w'.cell? ⟨w.heap.size, 3, none⟩ = some (.int .i64 a0_3) ∧ w'.cell? ⟨w.heap.size, 4, none⟩ = some (.int .i64 a0_4) ∧ w'.cell? ⟨w.heap.size, 5, none⟩ = some (.int .i64 a0_5) ∧ w'.cell? ⟨w.heap.size + 1, 0, none⟩ = some (.int .i64 a1_0) ∧ w'.cell? ⟨w.heap.size + 1, 1, none⟩ = some (.int .i64 a1_1) ∧ w1.grownBy w' none) (by kernel_rfl) (by have hd : w1.grownBy w1.drew none := grownBy_drew; exact ⟨(hd).cell p0 (by simp), (hd).cell p1 (by simp), (hd).cell p2 (by simp), (hd).cell p3 (by simp), (hd).cell p4 (by simp), (hd).cell p5 (by simp), (hd).cell p6 (by simp), (hd).cell p7 (by simp), hd⟩) (fun hS => ?_)
      refine wpAnyH_take (i := 0) (v := ?_) rfl (by kernel_rfl) (by kernel_rfl) (by kernel_rfl) (fun _ _ _ h => h) (Or.inl ⟨by kernel_rfl, ?_⟩) hS ?_
      rotate_left
      · intro w' hSw
        obtain ⟨g0, g1, g2, g3, g4, g5, g6, g7, _⟩ := hSw
        first | (go_simp; done) | (go_simp; with_reducible rfl)
      simp only [List.getElem_toArray, List.getElem_cons_zero, Act.put, List.setIfInBounds_toArray, List.set_cons_zero, List.set_cons_succ]
      refine wpAnyH_take (i := 2) (v := ?_) rfl (by kernel_rfl) (by kernel_rfl) (by kernel_rfl) (fun _ _ _ h => h) (Or.inl ⟨by kernel_rfl, ?_⟩) hS ?_
      rotate_left
      · intro w' hSw
        obtain ⟨g0, g1, g2, g3, g4, g5, g6, g7, _⟩ := hSw
        first | (go_simp; done) | (go_simp; with_reducible rfl)
      simp only [List.getElem_toArray, List.getElem_cons_zero, List.getElem_cons_succ, Act.put, List.setIfInBounds_toArray, List.set_cons_zero, List.set_cons_succ]
      refine wpAnyH_take (i := 4) (v := ?_) rfl (by kernel_rfl) (by kernel_rfl) (by kernel_rfl) (fun _ _ _ h => h) (Or.inl ⟨by kernel_rfl, ?_⟩) hS ?_
      rotate_left
      · intro w' hSw
        obtain ⟨g0, g1, g2, g3, g4, g5, g6, g7, _⟩ := hSw
        first | (go_simp; done) | (go_simp; with_reducible rfl)
      simp only [List.getElem_toArray, List.getElem_cons_zero, List.getElem_cons_succ, Act.put, List.setIfInBounds_toArray, List.set_cons_zero, List.set_cons_succ]
      refine wpAnyH_take (i := 5) (v := ?_) rfl (by kernel_rfl) (by kernel_rfl) (by kernel_rfl) (fun _ _ _ h => h) (Or.inl ⟨by kernel_rfl, ?_⟩) hS ?_
      rotate_left
      · intro w' hSw
        obtain ⟨g0, g1, g2, g3, g4, g5, g6, g7, _⟩ := hSw
        first | (go_simp; done) | (go_simp; with_reducible rfl)
      simp only [List.getElem_toArray, List.getElem_cons_zero, List.getElem_cons_succ, Act.put, List.setIfInBounds_toArray, List.set_cons_zero, List.set_cons_succ]
      refine wpAnyH_ready (rs := [1, 10]) (by kernel_rfl) (List.cons_ne_nil _ _) ?_
      refine AllReadyH.cons rfl (fun K hK => ?_) ?_
      · go_simp
        go_at_call 34
        refine (to_bbr _ _ _ _ _ _ _ _ _ (H1.out.2.kept (hS.2.2.2.2.2.2.2.2)) hl).mono ?_
        rintro e ut ⟨q5, rfl, hg, ho⟩
        have hrut := Lib.hid (rg_own ho)
        clear ho
        have hF := grownBy_trans (hS.2.2.2.2.2.2.2.2) hg
        clear hg
        refine hK.out _ _ (⟨(hF).cell p0 (by simp), (hF).cell p1 (by simp), (hF).cell p2 (by simp), (hF).cell p3 (by simp), (hF).cell p4 (by simp), (hF).cell p5 (by simp), (hF).cell p6 (by simp), (hF).cell p7 (by simp), hF⟩) (fun hS => ?_)
        clear hF
        clear hK
        try simp only [List.getElem_toArray, List.getElem_cons_zero, List.getElem_cons_succ, Act.put, List.setIfInBounds_toArray, List.set_cons_zero, List.set_cons_succ]
        refine wpAnyH_ready (rs := [3, 10]) (by kernel_rfl) (List.cons_ne_nil _ _) ?_
        refine AllReadyH.cons rfl (fun K hK => ?_) ?_
        · go_simp
          go_at_call 21
          refine (to_range _ _ _).mono ?_
          rintro e uts ⟨rfl, hg⟩
          have hruts := Lib.hid ((hrut.out).kept hg)
          have hF := grownBy_trans (hS.2.2.2.2.2.2.2.2) hg
          clear hg
          refine hK.out _ _ (⟨(hF).cell p0 (by simp), (hF).cell p1 (by simp), (hF).cell p2 (by simp), (hF).cell p3 (by simp), (hF).cell p4 (by simp), (hF).cell p5 (by simp), (hF).cell p6 (by simp), (hF).cell p7 (by simp), hF⟩) (fun hS => ?_)
          clear hF
          clear hK
          try simp only [List.getElem_toArray, List.getElem_cons_zero, List.getElem_cons_succ, Act.put, List.setIfInBounds_toArray, List.set_cons_zero, List.set_cons_succ]
          refine wpAnyH_ready (rs := [6, 10]) (by kernel_rfl) (List.cons_ne_nil _ _) ?_
          refine AllReadyH.cons rfl (fun K hK => ?_) ?_
          · go_simp
            go_at_call 36
            refine (HSS.out _ _ _ (hruts.out)).mono ?_
            rintro e utsp ⟨a5, c5, rfl, hg, ho⟩
            have houtsp := Lib.hid (And.intro ho (show w1.heap.size ≤ uts.heap.size from (hS.2.2.2.2.2.2.2.2).size))
            clear ho
            have hF := grownBy_trans (hS.2.2.2.2.2.2.2.2) hg
            clear hg
            refine hK.out _ _ (⟨(hF).cell p0 (by simp), (hF).cell p1 (by simp), (hF).cell p2 (by simp), (hF).cell p3 (by simp), (hF).cell p4 (by simp), (hF).cell p5 (by simp), (hF).cell p6 (by simp), (hF).cell p7 (by simp), hF⟩) (fun hS => ?_)
            clear hF
            clear hK
            try simp only [List.getElem_toArray, List.getElem_cons_zero, List.getElem_cons_succ, Act.put, List.setIfInBounds_toArray, List.set_cons_zero, List.set_cons_succ]
            refine wpAnyH_take (i := 7) (v := ?_) rfl (by kernel_rfl) (by kernel_rfl) (by kernel_rfl) (fun _ _ _ h => h) (Or.inl ⟨by kernel_rfl, ?_⟩) hS ?_
            rotate_left
            · intro w' hSw
              obtain ⟨g0, g1, g2, g3, g4, g5, g6, g7, _⟩ := hSw
              first | (go_simp; done) | (go_simp; with_reducible rfl)
            simp only [List.getElem_toArray, List.getElem_cons_zero, List.getElem_cons_succ, Act.put, List.setIfInBounds_toArray, List.set_cons_zero, List.set_cons_succ]
            refine wpAnyH_take (i := 8) (v := ?_) rfl (by kernel_rfl) (by kernel_rfl) (by kernel_rfl) (fun _ _ _ h => h) (Or.inl ⟨by kernel_rfl, ?_⟩) hS ?_
            rotate_left
            · intro w' hSw
              obtain ⟨g0, g1, g2, g3, g4, g5, g6, g7, _⟩ := hSw
              first | (go_simp; done) | (go_simp; with_reducible rfl)
            simp only [List.getElem_toArray, List.getElem_cons_zero, List.getElem_cons_succ, Act.put, List.setIfInBounds_toArray, List.set_cons_zero, List.set_cons_succ]
            refine wpAnyH_take (i := 9) (v := ?_) rfl (by kernel_rfl) (by kernel_rfl) (by kernel_rfl) (fun _ _ _ h => h) (Or.inl ⟨by kernel_rfl, ?_⟩) hS ?_
            rotate_left
            · intro w' hSw
              obtain ⟨g0, g1, g2, g3, g4, g5, g6, g7, _⟩ := hSw
              first | (go_simp; done) | (go_simp; with_reducible rfl)
            simp only [List.getElem_toArray, List.getElem_cons_zero, List.getElem_cons_succ, Act.put, List.setIfInBounds_toArray, List.set_cons_zero, List.set_cons_succ]
            refine wpAnyH_ready (rs := [10]) (by kernel_rfl) (List.cons_ne_nil _ _) ?_
            refine AllReadyH.cons rfl (fun K hK => ?_) AllReadyH.nil
            go_simp
            refine gen_w (P := fun V => utsp.grownBy V none ∧ Bx V utsp.heap.size 39 (#[.int .i64 0, .slice none 0 0, .int .i64 0, .int .i64 0, .int .i64 0, .int .i64 0])) ⟨?_, ?_⟩ (fun utspa hp => ?_)
            skip
            · first | with_reducible exact World.grownBy_alloc _ _ _ | with_reducible exact gA grownBy_drew _ | with_reducible exact grownBy_trans (World.grownBy_alloc _ _ _) grownBy_drew
            · first | with_reducible exact Bx.new _ _ _ | with_reducible exact (Bx.new _ _ _).keep grownBy_drew | exact Bx.new _ _ _
            have hF : w1.grownBy utspa none := grownBy_trans (hS.2.2.2.2.2.2.2.2) hp.1
            have hxutspa := Lib.hid hp.2
            have hbA := Lib.hid (show w1.heap.size ≤ utsp.heap.size from (hS.2.2.2.2.2.2.2.2).size)
            have houtspa := Lib.hid (And.intro (own_kept houtsp.out.1 hp.1) houtsp.out.2)
            have hneA := Lib.hid (own_lt houtsp.out.1 (Nat.le_refl utsp.heap.size))
            clear hp
            refine hK.out _ _ (⟨(hF).cell p0 (by simp), (hF).cell p1 (by simp), (hF).cell p2 (by simp), (hF).cell p3 (by simp), (hF).cell p4 (by simp), (hF).cell p5 (by simp), (hF).cell p6 (by simp), (hF).cell p7 (by simp), hF⟩) (fun hS => ?_)
            clear hF
            clear hK
            try simp only [List.getElem_toArray, List.getElem_cons_zero, List.getElem_cons_succ, Act.put, List.setIfInBounds_toArray, List.set_cons_zero, List.set_cons_succ]
            refine wpAnyH_ready (rs := [11]) (by kernel_rfl) (List.cons_ne_nil _ _) ?_
            refine AllReadyH.cons rfl (fun K hK => ?_) AllReadyH.nil
            have z0 := hxutspa.out.c 0 rfl
            have z1 := hxutspa.out.c 1 rfl
            have z2 := hxutspa.out.c 2 rfl
            have z3 := hxutspa.out.c 3 rfl
            have z4 := hxutspa.out.c 4 rfl
            have z5 := hxutspa.out.c 5 rfl
            have f0 := hxutspa.out.f 0
            have f1 := hxutspa.out.f 1
            have f2 := hxutspa.out.f 2
            have f3 := hxutspa.out.f 3
            have f4 := hxutspa.out.f 4
            have f5 := hxutspa.out.f 5
            have lx := hxutspa.out.lt
            go_simp
            refine gen_w (P := fun V => Res w1 V _ a5 c5 P L R F S T) (res_new (hS.2.2.2.2.2.2.2.2) hxutspa.out hbA.out houtspa.out.1 houtspa.out.2 hneA.out) (fun uz hp => ?_)
            have hF := hp.g
            have hpp := Lib.hid hp
            clear hp z0 f0 z1 f1 z2 f2 z3 f3 z4 f4 z5 f5 lx
            refine hK.out _ _ (⟨(hF).cell p0 (by simp), (hF).cell p1 (by simp), (hF).cell p2 (by simp), (hF).cell p3 (by simp), (hF).cell p4 (by simp), (hF).cell p5 (by simp), (hF).cell p6 (by simp), (hF).cell p7 (by simp), hF⟩) (fun hS => ?_)
            clear hF
            clear hK
            try simp only [List.getElem_toArray, List.getElem_cons_zero, List.getElem_cons_succ, Act.put, List.setIfInBounds_toArray, List.set_cons_zero, List.set_cons_succ]
            refine wpAnyH_take (i := 12) (v := ?_) rfl (by kernel_rfl) (by kernel_rfl) (by kernel_rfl) (fun _ _ _ h => h) (Or.inl ⟨by kernel_rfl, ?_⟩) hS ?_
            rotate_left
            · intro w' hSw
              obtain ⟨g0, g1, g2, g3, g4, g5, g6, g7, _⟩ := hSw
              first | (go_simp; done) | (go_simp; with_reducible rfl)
            simp only [List.getElem_toArray, List.getElem_cons_zero, List.getElem_cons_succ, Act.put, List.setIfInBounds_toArray, List.set_cons_zero, List.set_cons_succ]
            refine wpAnyH_done (by kernel_rfl) ?_ _
            go_wp2_with fail
            go_meet
            exact ⟨_, _, _, rfl, rfl, hpp.out⟩
          refine AllReadyH.cons rfl (fun K hK => ?_) ?_
          · go_simp
            refine gen_w (P := fun V => uts.grownBy V none ∧ Bx V uts.heap.size 39 (#[.int .i64 0, .slice none 0 0, .int .i64 0, .int .i64 0, .int .i64 0, .int .i64 0])) ⟨?_, ?_⟩ (fun utsa hp => ?_)
            skip
            · first | with_reducible exact World.grownBy_alloc _ _ _ | with_reducible exact gA grownBy_drew _ | with_reducible exact grownBy_trans (World.grownBy_alloc _ _ _) grownBy_drew
            · first | with_reducible exact Bx.new _ _ _ | with_reducible exact (Bx.new _ _ _).keep grownBy_drew | exact Bx.new _ _ _
            have hF : w1.grownBy utsa none := grownBy_trans (hS.2.2.2.2.2.2.2.2) hp.1
            have hxutsa := Lib.hid hp.2
            have hbA := Lib.hid (show w1.heap.size ≤ uts.heap.size from (hS.2.2.2.2.2.2.2.2).size)
            have hrutsa := Lib.hid (hruts.out.kept hp.1)
            clear hp
            refine hK.out _ _ (⟨(hF).cell p0 (by simp), (hF).cell p1 (by simp), (hF).cell p2 (by simp), (hF).cell p3 (by simp), (hF).cell p4 (by simp), (hF).cell p5 (by simp), (hF).cell p6 (by simp), (hF).cell p7 (by simp), hF⟩) (fun hS => ?_)
            clear hF
            clear hK
            try simp only [List.getElem_toArray, List.getElem_cons_zero, List.getElem_cons_succ, Act.put, List.setIfInBounds_toArray, List.set_cons_zero, List.set_cons_succ]
            refine wpAnyH_ready (rs := [6]) (by kernel_rfl) (List.cons_ne_nil _ _) ?_
            refine AllReadyH.cons rfl (fun K hK => ?_) AllReadyH.nil
            go_simp
            go_at_call 36
            refine (HSS.out _ _ _ (hrutsa.out)).mono ?_
            rintro e utspa ⟨a5, c5, rfl, hg, ho⟩
            have houtspa := Lib.hid (And.intro ho (show w1.heap.size ≤ utsa.heap.size from (hS.2.2.2.2.2.2.2.2).size))
            have hneA := Lib.hid (own_ge ho hxutsa.out.lt)
            clear ho
            have hF := grownBy_trans (hS.2.2.2.2.2.2.2.2) hg
            have hxutspa := Lib.hid (hxutsa.out.keep hg)
            clear hg
            refine hK.out _ _ (⟨(hF).cell p0 (by simp), (hF).cell p1 (by simp), (hF).cell p2 (by simp), (hF).cell p3 (by simp), (hF).cell p4 (by simp), (hF).cell p5 (by simp), (hF).cell p6 (by simp), (hF).cell p7 (by simp), hF⟩) (fun hS => ?_)
            clear hF
            clear hK
            try simp only [List.getElem_toArray, List.getElem_cons_zero, List.getElem_cons_succ, Act.put, List.setIfInBounds_toArray, List.set_cons_zero, List.set_cons_succ]
            refine wpAnyH_take (i := 7) (v := ?_) rfl (by kernel_rfl) (by kernel_rfl) (by kernel_rfl) (fun _ _ _ h => h) (Or.inl ⟨by kernel_rfl, ?_⟩) hS ?_
            rotate_left
            · intro w' hSw
              obtain ⟨g0, g1, g2, g3, g4, g5, g6, g7, _⟩ := hSw
              first | (go_simp; done) | (go_simp; with_reducible rfl)
            simp only [List.getElem_toArray, List.getElem_cons_zero, List.getElem_cons_succ, Act.put, List.setIfInBounds_toArray, List.set_cons_zero, List.set_cons_succ]
            refine wpAnyH_take (i := 8) (v := ?_) rfl (by kernel_rfl) (by kernel_rfl) (by kernel_rfl) (fun _ _ _ h => h) (Or.inl ⟨by kernel_rfl, ?_⟩) hS ?_
            rotate_left
            · intro w' hSw
              obtain ⟨g0, g1, g2, g3, g4, g5, g6, g7, _⟩ := hSw
              first | (go_simp; done) | (go_simp; with_reducible rfl)
            simp only [List.getElem_toArray, List.getElem_cons_zero, List.getElem_cons_succ, Act.put, List.setIfInBounds_toArray, List.set_cons_zero, List.set_cons_succ]
            refine wpAnyH_take (i := 9) (v := ?_) rfl (by kernel_rfl) (by kernel_rfl) (by kernel_rfl) (fun _ _ _ h => h) (Or.inl ⟨by kernel_rfl, ?_⟩) hS ?_
            rotate_left
            · intro w' hSw
              obtain ⟨g0, g1, g2, g3, g4, g5, g6, g7, _⟩ := hSw
              first | (go_simp; done) | (go_simp; with_reducible rfl)
            simp only [List.getElem_toArray, List.getElem_cons_zero, List.getElem_cons_succ, Act.put, List.setIfInBounds_toArray, List.set_cons_zero, List.set_cons_succ]
            refine wpAnyH_ready (rs := [11]) (by kernel_rfl) (List.cons_ne_nil _ _) ?_
            refine AllReadyH.cons rfl (fun K hK => ?_) AllReadyH.nil
            have z0 := hxutspa.out.c 0 rfl
            have z1 := hxutspa.out.c 1 rfl
            have z2 := hxutspa.out.c 2 rfl
            have z3 := hxutspa.out.c 3 rfl
            have z4 := hxutspa.out.c 4 rfl
            have z5 := hxutspa.out.c 5 rfl
            have f0 := hxutspa.out.f 0
            have f1 := hxutspa.out.f 1
            have f2 := hxutspa.out.f 2
            have f3 := hxutspa.out.f 3
            have f4 := hxutspa.out.f 4
            have f5 := hxutspa.out.f 5
            have lx := hxutspa.out.lt
            go_simp
            refine gen_w (P := fun V => Res w1 V _ a5 c5 P L R F S T) (res_new (hS.2.2.2.2.2.2.2.2) hxutspa.out hbA.out houtspa.out.1 houtspa.out.2 hneA.out) (fun uz hp => ?_)
            have hF := hp.g
            have hpp := Lib.hid hp
            clear hp z0 f0 z1 f1 z2 f2 z3 f3 z4 f4 z5 f5 lx
            refine hK.out _ _ (⟨(hF).cell p0 (by simp), (hF).cell p1 (by simp), (hF).cell p2 (by simp), (hF).cell p3 (by simp), (hF).cell p4 (by simp), (hF).cell p5 (by simp), (hF).cell p6 (by simp), (hF).cell p7 (by simp), hF⟩) (fun hS => ?_)
            clear hF
            clear hK
            try simp only [List.getElem_toArray, List.getElem_cons_zero, List.getElem_cons_succ, Act.put, List.setIfInBounds_toArray, List.set_cons_zero, List.set_cons_succ]
            refine wpAnyH_take (i := 12) (v := ?_) rfl (by kernel_rfl) (by kernel_rfl) (by kernel_rfl) (fun _ _ _ h => h) (Or.inl ⟨by kernel_rfl, ?_⟩) hS ?_
            rotate_left
            · intro w' hSw
              obtain ⟨g0, g1, g2, g3, g4, g5, g6, g7, _⟩ := hSw
              first | (go_simp; done) | (go_simp; with_reducible rfl)
            simp only [List.getElem_toArray, List.getElem_cons_zero, List.getElem_cons_succ, Act.put, List.setIfInBounds_toArray, List.set_cons_zero, List.set_cons_succ]
            refine wpAnyH_done (by kernel_rfl) ?_ _
            go_wp2_with fail
            go_meet
            exact ⟨_, _, _, rfl, rfl, hpp.out⟩
          exact AllReadyH.nil
        refine AllReadyH.cons rfl (fun K hK => ?_) ?_
        · go_simp
          refine gen_w (P := fun V => ut.grownBy V none ∧ Bx V ut.heap.size 39 (#[.int .i64 0, .slice none 0 0, .int .i64 0, .int .i64 0, .int .i64 0, .int .i64 0])) ⟨?_, ?_⟩ (fun uta hp => ?_)
          skip
          · first | with_reducible exact World.grownBy_alloc _ _ _ | with_reducible exact gA grownBy_drew _ | with_reducible exact grownBy_trans (World.grownBy_alloc _ _ _) grownBy_drew
          · first | with_reducible exact Bx.new _ _ _ | with_reducible exact (Bx.new _ _ _).keep grownBy_drew | exact Bx.new _ _ _
          have hF : w1.grownBy uta none := grownBy_trans (hS.2.2.2.2.2.2.2.2) hp.1
          have hxuta := Lib.hid hp.2
          have hbA := Lib.hid (show w1.heap.size ≤ ut.heap.size from (hS.2.2.2.2.2.2.2.2).size)
          have hruta := Lib.hid (hrut.out.kept hp.1)
          clear hp
          refine hK.out _ _ (⟨(hF).cell p0 (by simp), (hF).cell p1 (by simp), (hF).cell p2 (by simp), (hF).cell p3 (by simp), (hF).cell p4 (by simp), (hF).cell p5 (by simp), (hF).cell p6 (by simp), (hF).cell p7 (by simp), hF⟩) (fun hS => ?_)
          clear hF
          clear hK
          try simp only [List.getElem_toArray, List.getElem_cons_zero, List.getElem_cons_succ, Act.put, List.setIfInBounds_toArray, List.set_cons_zero, List.set_cons_succ]
          refine wpAnyH_ready (rs := [3]) (by kernel_rfl) (List.cons_ne_nil _ _) ?_
          refine AllReadyH.cons rfl (fun K hK => ?_) AllReadyH.nil
          go_simp
          go_at_call 21
          refine (to_range _ _ _).mono ?_
          rintro e utsa ⟨rfl, hg⟩
          have hrutsa := Lib.hid ((hruta.out).kept hg)
          have hF := grownBy_trans (hS.2.2.2.2.2.2.2.2) hg
          have hxutsa := Lib.hid (hxuta.out.keep hg)
          clear hg
          refine hK.out _ _ (⟨(hF).cell p0 (by simp), (hF).cell p1 (by simp), (hF).cell p2 (by simp), (hF).cell p3 (by simp), (hF).cell p4 (by simp), (hF).cell p5 (by simp), (hF).cell p6 (by simp), (hF).cell p7 (by simp), hF⟩) (fun hS => ?_)
          clear hF
          clear hK
          try simp only [List.getElem_toArray, List.getElem_cons_zero, List.getElem_cons_succ, Act.put, List.setIfInBounds_toArray, List.set_cons_zero, List.set_cons_succ]
          refine wpAnyH_ready (rs := [6]) (by kernel_rfl) (List.cons_ne_nil _ _) ?_
          refine AllReadyH.cons rfl (fun K hK => ?_) AllReadyH.nil
          go_simp
          go_at_call 36
          refine (HSS.out _ _ _ (hrutsa.out)).mono ?_
          rintro e utspa ⟨a5, c5, rfl, hg, ho⟩
          have houtspa := Lib.hid (And.intro ho (show w1.heap.size ≤ utsa.heap.size from (hS.2.2.2.2.2.2.2.2).size))
          have hneA := Lib.hid (own_ge ho hxutsa.out.lt)
          clear ho
          have hF := grownBy_trans (hS.2.2.2.2.2.2.2.2) hg
          have hxutspa := Lib.hid (hxutsa.out.keep hg)
          clear hg
          refine hK.out _ _ (⟨(hF).cell p0 (by simp), (hF).cell p1 (by simp), (hF).cell p2 (by simp), (hF).cell p3 (by simp), (hF).cell p4 (by simp), (hF).cell p5 (by simp), (hF).cell p6 (by simp), (hF).cell p7 (by simp), hF⟩) (fun hS => ?_)
          clear hF
          clear hK
          try simp only [List.getElem_toArray, List.getElem_cons_zero, List.getElem_cons_succ, Act.put, List.setIfInBounds_toArray, List.set_cons_zero, List.set_cons_succ]
          refine wpAnyH_take (i := 7) (v := ?_) rfl (by kernel_rfl) (by kernel_rfl) (by kernel_rfl) (fun _ _ _ h => h) (Or.inl ⟨by kernel_rfl, ?_⟩) hS ?_
          rotate_left
          · intro w' hSw
            obtain ⟨g0, g1, g2, g3, g4, g5, g6, g7, _⟩ := hSw
            first | (go_simp; done) | (go_simp; with_reducible rfl)
          simp only [List.getElem_toArray, List.getElem_cons_zero, List.getElem_cons_succ, Act.put, List.setIfInBounds_toArray, List.set_cons_zero, List.set_cons_succ]
          refine wpAnyH_take (i := 8) (v := ?_) rfl (by kernel_rfl) (by kernel_rfl) (by kernel_rfl) (fun _ _ _ h => h) (Or.inl ⟨by kernel_rfl, ?_⟩) hS ?_
          rotate_left
          · intro w' hSw
            obtain ⟨g0, g1, g2, g3, g4, g5, g6, g7, _⟩ := hSw
            first | (go_simp; done) | (go_simp; with_reducible rfl)
          simp only [List.getElem_toArray, List.getElem_cons_zero, List.getElem_cons_succ, Act.put, List.setIfInBounds_toArray, List.set_cons_zero, List.set_cons_succ]
          refine wpAnyH_take (i := 9) (v := ?_) rfl (by kernel_rfl) (by kernel_rfl) (by kernel_rfl) (fun _ _ _ h => h) (Or.inl ⟨by kernel_rfl, ?_⟩) hS ?_
          rotate_left
          · intro w' hSw
            obtain ⟨g0, g1, g2, g3, g4, g5, g6, g7, _⟩ := hSw
            first | (go_simp; done) | (go_simp; with_reducible rfl)
          simp only [List.getElem_toArray, List.getElem_cons_zero, List.getElem_cons_succ, Act.put, List.setIfInBounds_toArray, List.set_cons_zero, List.set_cons_succ]
          refine wpAnyH_ready (rs := [11]) (by kernel_rfl) (List.cons_ne_nil _ _) ?_
          refine AllReadyH.cons rfl (fun K hK => ?_) AllReadyH.nil
          have z0 := hxutspa.out.c 0 rfl
          have z1 := hxutspa.out.c 1 rfl
          have z2 := hxutspa.out.c 2 rfl
          have z3 := hxutspa.out.c 3 rfl
          have z4 := hxutspa.out.c 4 rfl
          have z5 := hxutspa.out.c 5 rfl
          have f0 := hxutspa.out.f 0
          have f1 := hxutspa.out.f 1
          have f2 := hxutspa.out.f 2
          have f3 := hxutspa.out.f 3
          have f4 := hxutspa.out.f 4
          have f5 := hxutspa.out.f 5
          have lx := hxutspa.out.lt
          go_simp
          refine gen_w (P := fun V => Res w1 V _ a5 c5 P L R F S T) (res_new (hS.2.2.2.2.2.2.2.2) hxutspa.out hbA.out houtspa.out.1 houtspa.out.2 hneA.out) (fun uz hp => ?_)
          have hF := hp.g
          have hpp := Lib.hid hp
          clear hp z0 f0 z1 f1 z2 f2 z3 f3 z4 f4 z5 f5 lx
          refine hK.out _ _ (⟨(hF).cell p0 (by simp), (hF).cell p1 (by simp), (hF).cell p2 (by simp), (hF).cell p3 (by simp), (hF).cell p4 (by simp), (hF).cell p5 (by simp), (hF).cell p6 (by simp), (hF).cell p7 (by simp), hF⟩) (fun hS => ?_)
          clear hF
          clear hK
          try simp only [List.getElem_toArray, List.getElem_cons_zero, List.getElem_cons_succ, Act.put, List.setIfInBounds_toArray, List.set_cons_zero, List.set_cons_succ]
          refine wpAnyH_take (i := 12) (v := ?_) rfl (by kernel_rfl) (by kernel_rfl) (by kernel_rfl) (fun _ _ _ h => h) (Or.inl ⟨by kernel_rfl, ?_⟩) hS ?_
          rotate_left
          · intro w' hSw
            obtain ⟨g0, g1, g2, g3, g4, g5, g6, g7, _⟩ := hSw
            first | (go_simp; done) | (go_simp; with_reducible rfl)
          simp only [List.getElem_toArray, List.getElem_cons_zero, List.getElem_cons_succ, Act.put, List.setIfInBounds_toArray, List.set_cons_zero, List.set_cons_succ]
          refine wpAnyH_done (by kernel_rfl) ?_ _
          go_wp2_with fail
          go_meet
          exact ⟨_, _, _, rfl, rfl, hpp.out⟩
        exact AllReadyH.nil
      refine AllReadyH.cons rfl (fun K hK => ?_) ?_
      · go_simp
        refine gen_w (P := fun V => w1.grownBy V none ∧ Bx V w1.heap.size 39 (#[.int .i64 0, .slice none 0 0, .int .i64 0, .int .i64 0, .int .i64 0, .int .i64 0])) ⟨?_, ?_⟩ (fun ua hp => ?_)
        skip
        · first | with_reducible exact World.grownBy_alloc _ _ _ | with_reducible exact gA grownBy_drew _ | with_reducible exact grownBy_trans (World.grownBy_alloc _ _ _) grownBy_drew
        · first | with_reducible exact Bx.new _ _ _ | with_reducible exact (Bx.new _ _ _).keep grownBy_drew | exact Bx.new _ _ _
        have hF : w1.grownBy ua none := hp.1
        have hxua := Lib.hid hp.2
        have hbA := Lib.hid (show w1.heap.size ≤ w1.heap.size from Nat.le_refl _)
        clear hp
        refine hK.out _ _ (⟨(hF).cell p0 (by simp), (hF).cell p1 (by simp), (hF).cell p2 (by simp), (hF).cell p3 (by simp), (hF).cell p4 (by simp), (hF).cell p5 (by simp), (hF).cell p6 (by simp), (hF).cell p7 (by simp), hF⟩) (fun hS => ?_)
        clear hF
        clear hK
        try simp only [List.getElem_toArray, List.getElem_cons_zero, List.getElem_cons_succ, Act.put, List.setIfInBounds_toArray, List.set_cons_zero, List.set_cons_succ]
        refine wpAnyH_ready (rs := [1]) (by kernel_rfl) (List.cons_ne_nil _ _) ?_
        refine AllReadyH.cons rfl (fun K hK => ?_) AllReadyH.nil
        go_simp
        go_at_call 34
        refine (to_bbr _ _ _ _ _ _ _ _ _ (H1.out.2.kept (hS.2.2.2.2.2.2.2.2)) hl).mono ?_
        rintro e uta ⟨q5, rfl, hg, ho⟩
        have hruta := Lib.hid (rg_own ho)
        clear ho
        have hF := grownBy_trans (hS.2.2.2.2.2.2.2.2) hg
        have hxuta := Lib.hid (hxua.out.keep hg)
        clear hg
        refine hK.out _ _ (⟨(hF).cell p0 (by simp), (hF).cell p1 (by simp), (hF).cell p2 (by simp), (hF).cell p3 (by simp), (hF).cell p4 (by simp), (hF).cell p5 (by simp), (hF).cell p6 (by simp), (hF).cell p7 (by simp), hF⟩) (fun hS => ?_)
        clear hF
        clear hK
        try simp only [List.getElem_toArray, List.getElem_cons_zero, List.getElem_cons_succ, Act.put, List.setIfInBounds_toArray, List.set_cons_zero, List.set_cons_succ]
        refine wpAnyH_ready (rs := [3]) (by kernel_rfl) (List.cons_ne_nil _ _) ?_
        refine AllReadyH.cons rfl (fun K hK => ?_) AllReadyH.nil
        go_simp
        go_at_call 21
        refine (to_range _ _ _).mono ?_
        rintro e utsa ⟨rfl, hg⟩
        have hrutsa := Lib.hid ((hruta.out).kept hg)
        have hF := grownBy_trans (hS.2.2.2.2.2.2.2.2) hg
        have hxutsa := Lib.hid (hxuta.out.keep hg)
        clear hg
        refine hK.out _ _ (⟨(hF).cell p0 (by simp), (hF).cell p1 (by simp), (hF).cell p2 (by simp), (hF).cell p3 (by simp), (hF).cell p4 (by simp), (hF).cell p5 (by simp), (hF).cell p6 (by simp), (hF).cell p7 (by simp), hF⟩) (fun hS => ?_)
        clear hF
        clear hK
        try simp only [List.getElem_toArray, List.getElem_cons_zero, List.getElem_cons_succ, Act.put, List.setIfInBounds_toArray, List.set_cons_zero, List.set_cons_succ]
        refine wpAnyH_ready (rs := [6]) (by kernel_rfl) (List.cons_ne_nil _ _) ?_
        refine AllReadyH.cons rfl (fun K hK => ?_) AllReadyH.nil
        go_simp
        go_at_call 36
        refine (HSS.out _ _ _ (hrutsa.out)).mono ?_
        rintro e utspa ⟨a5, c5, rfl, hg, ho⟩
        have houtspa := Lib.hid (And.intro ho (show w1.heap.size ≤ utsa.heap.size from (hS.2.2.2.2.2.2.2.2).size))
        have hneA := Lib.hid (own_ge ho hxutsa.out.lt)
        clear ho
        have hF := grownBy_trans (hS.2.2.2.2.2.2.2.2) hg
        have hxutspa := Lib.hid (hxutsa.out.keep hg)
        clear hg
        refine hK.out _ _ (⟨(hF).cell p0 (by simp), (hF).cell p1 (by simp), (hF).cell p2 (by simp), (hF).cell p3 (by simp), (hF).cell p4 (by simp), (hF).cell p5 (by simp), (hF).cell p6 (by simp), (hF).cell p7 (by simp), hF⟩) (fun hS => ?_)
        clear hF
        clear hK
        try simp only [List.getElem_toArray, List.getElem_cons_zero, List.getElem_cons_succ, Act.put, List.setIfInBounds_toArray, List.set_cons_zero, List.set_cons_succ]
        refine wpAnyH_take (i := 7) (v := ?_) rfl (by kernel_rfl) (by kernel_rfl) (by kernel_rfl) (fun _ _ _ h => h) (Or.inl ⟨by kernel_rfl, ?_⟩) hS ?_
        rotate_left
        · intro w' hSw
          obtain ⟨g0, g1, g2, g3, g4, g5, g6, g7, _⟩ := hSw
          first | (go_simp; done) | (go_simp; with_reducible rfl)
        simp only [List.getElem_toArray, List.getElem_cons_zero, List.getElem_cons_succ, Act.put, List.setIfInBounds_toArray, List.set_cons_zero, List.set_cons_succ]
        refine wpAnyH_take (i := 8) (v := ?_) rfl (by kernel_rfl) (by kernel_rfl) (by kernel_rfl) (fun _ _ _ h => h) (Or.inl ⟨by kernel_rfl, ?_⟩) hS ?_
        rotate_left
        · intro w' hSw
          obtain ⟨g0, g1, g2, g3, g4, g5, g6, g7, _⟩ := hSw
          first | (go_simp; done) | (go_simp; with_reducible rfl)
        simp only [List.getElem_toArray, List.getElem_cons_zero, List.getElem_cons_succ, Act.put, List.setIfInBounds_toArray, List.set_cons_zero, List.set_cons_succ]
        refine wpAnyH_take (i := 9) (v := ?_) rfl (by kernel_rfl) (by kernel_rfl) (by kernel_rfl) (fun _ _ _ h => h) (Or.inl ⟨by kernel_rfl, ?_⟩) hS ?_
        rotate_left
        · intro w' hSw
          obtain ⟨g0, g1, g2, g3, g4, g5, g6, g7, _⟩ := hSw
          first | (go_simp; done) | (go_simp; with_reducible rfl)
        simp only [List.getElem_toArray, List.getElem_cons_zero, List.getElem_cons_succ, Act.put, List.setIfInBounds_toArray, List.set_cons_zero, List.set_cons_succ]
        refine wpAnyH_ready (rs := [11]) (by kernel_rfl) (List.cons_ne_nil _ _) ?_
        refine AllReadyH.cons rfl (fun K hK => ?_) AllReadyH.nil
        have z0 := hxutspa.out.c 0 rfl
        have z1 := hxutspa.out.c 1 rfl
        have z2 := hxutspa.out.c 2 rfl
        have z3 := hxutspa.out.c 3 rfl
        have z4 := hxutspa.out.c 4 rfl
        have z5 := hxutspa.out.c 5 rfl
        have f0 := hxutspa.out.f 0
        have f1 := hxutspa.out.f 1
        have f2 := hxutspa.out.f 2
        have f3 := hxutspa.out.f 3
        have f4 := hxutspa.out.f 4
        have f5 := hxutspa.out.f 5
        have lx := hxutspa.out.lt
        go_simp
        refine gen_w (P := fun V => Res w1 V _ a5 c5 P L R F S T) (res_new (hS.2.2.2.2.2.2.2.2) hxutspa.out hbA.out houtspa.out.1 houtspa.out.2 hneA.out) (fun uz hp => ?_)
        have hF := hp.g
        have hpp := Lib.hid hp
        clear hp z0 f0 z1 f1 z2 f2 z3 f3 z4 f4 z5 f5 lx
        refine hK.out _ _ (⟨(hF).cell p0 (by simp), (hF).cell p1 (by simp), (hF).cell p2 (by simp), (hF).cell p3 (by simp), (hF).cell p4 (by simp), (hF).cell p5 (by simp), (hF).cell p6 (by simp), (hF).cell p7 (by simp), hF⟩) (fun hS => ?_)
        clear hF
        clear hK
        try simp only [List.getElem_toArray, List.getElem_cons_zero, List.getElem_cons_succ, Act.put, List.setIfInBounds_toArray, List.set_cons_zero, List.set_cons_succ]
        refine wpAnyH_take (i := 12) (v := ?_) rfl (by kernel_rfl) (by kernel_rfl) (by kernel_rfl) (fun _ _ _ h => h) (Or.inl ⟨by kernel_rfl, ?_⟩) hS ?_
        rotate_left
        · intro w' hSw
          obtain ⟨g0, g1, g2, g3, g4, g5, g6, g7, _⟩ := hSw
          first | (go_simp; done) | (go_simp; with_reducible rfl)
        simp only [List.getElem_toArray, List.getElem_cons_zero, List.getElem_cons_succ, Act.put, List.setIfInBounds_toArray, List.set_cons_zero, List.set_cons_succ]
        refine wpAnyH_done (by kernel_rfl) ?_ _
        go_wp2_with fail
        go_meet
        exact ⟨_, _, _, rfl, rfl, hpp.out⟩
      exact AllReadyH.nil
    case rest =>
      obtain ⟨B5, a5, c5, rfl, rfl, hres⟩ := hcut
      have H5 := Lib.hid (And.intro (H1.out.1.keep hres.g) (And.intro (H1.out.2.kept hres.g) hres))
      clear hres
      generalize hwc : wc = w5 at *
      clear hwc
      have b0 := (H5.out.1.b).c 0 rfl
      have b1 := (H5.out.1.b).c 1 rfl
      have b2 := (H5.out.1.b).c 2 rfl
      have b3 := (H5.out.1.b).c 3 rfl
      have b4 := (H5.out.1.b).c 4 rfl
      have b5 := (H5.out.1.b).c 5 rfl
      go_wp2_with fail
      refine (to_bbr _ _ _ _ _ _ _ _ _ H5.out.2.1 hl).mono ?_
      rintro e w6 ⟨q6, rfl, hg, ho⟩
      clear b0 b1 b2 b3 b4 b5
      have hX := Bx.new w6 39 (bbC a0_0 (some ⟨q6, 0, none⟩) l0_1.length l0_1.length a0_2 a0_3 a0_4 a0_5)
      have gX := World.grownBy_alloc w6 (.cells (bbC a0_0 (some ⟨q6, 0, none⟩) l0_1.length l0_1.length a0_2 a0_3 a0_4 a0_5) 39) none
      have N5 := Lib.hid (And.intro (own_apart1 H5.out.2.2.o ho (Nat.le_refl _)) (And.intro (own_ge ho H5.out.2.2.b.lt) (own_lt ho (Nat.le_refl _))))
      have hS7 : Sx w1 B5 w1.heap.size (bbC P a5 L.length c5 R F S T) a5 c5 L w6.heap.size w5.heap.size (bbC a0_0 (some ⟨q6, 0, none⟩) l0_1.length l0_1.length a0_2 a0_3 a0_4 a0_5) q6 l0_1 (w6.alloc (.cells (bbC a0_0 (some ⟨q6, 0, none⟩) l0_1.length l0_1.length a0_2 a0_3 a0_4 a0_5) 39)) := ⟨grownBy_trans H5.out.2.2.g (grownBy_trans hg gX), H5.out.2.2.b.keep (grownBy_trans hg gX), own_kept H5.out.2.2.o (grownBy_trans hg gX), hX, own_kept ho gX⟩
      have S7 := Lib.hid hS7
      have H15 := Lib.hid (show w1.heap.size ≤ w5.heap.size from H5.out.2.2.g.size)
      clear hg ho hX gX hS7
      go_upto_region 7 with fail
      generalize w6.alloc (.cells (bbC a0_0 (some ⟨q6, 0, none⟩) l0_1.length l0_1.length a0_2 a0_3 a0_4 a0_5) 39) = w7 at *
      go_cut [13, 14] (fun s13 s14 wx => ∃ (B : Nat) (a : Option Addr) (c : Nat), s13 = .pointer (some ⟨B, 0, none⟩) ∧ s14 = .bool D ∧ Res w7 wx B a c P L R F S T)
      case first =>
        have p0 := (S7.out.bx).c 0 rfl
        have p1 := (S7.out.bx).c 1 rfl
        have p2 := (S7.out.bx).c 2 rfl
        have p3 := (S7.out.bx).c 3 rfl
        have p4 := (S7.out.bx).c 4 rfl
        have p5 := (S7.out.bx).c 5 rfl
        have p6 := ((H1.out.1.keep S7.out.g).x).c 0 rfl
        have p7 := ((H1.out.1.keep S7.out.g).x).c 1 rfl
        refine wp_region_held_drew (S := fun w' => w'.cell? ⟨w6.heap.size, 0, none⟩ = some (.int .i64 a0_0) ∧ w'.cell? ⟨w6.heap.size, 1, none⟩ = some (.slice (some ⟨q6, 0, none⟩) l0_1.length l0_1.length) ∧ w'.cell? ⟨w6.heap.size, 2, none⟩ = some (.int .i64 a0_2) ∧ w'.cell? ⟨w6.heap.size, 3, none⟩ = some (.int .i64 a0_3) ∧ w'.cell? ⟨w6.heap.size, 4, none⟩ = some (.int .i64 a0_4) ∧ w'.cell? ⟨w6.heap.size, 5, none⟩ = some (.int .i64 a0_5) ∧ w'.cell? ⟨w.heap.size + 1, 0, none⟩ = some (.int .i64 a1_0) ∧ w'.cell? ⟨w.heap.size + 1, 1, none⟩ = some (.int .i64 a1_1) ∧ w7.grownBy w' none) (by kernel_rfl) (by have hd : w7.grownBy w7.drew none := grownBy_drew; exact ⟨(hd).cell p0 (by simp), (hd).cell p1 (by simp), (hd).cell p2 (by simp), (hd).cell p3 (by simp), (hd).cell p4 (by simp), (hd).cell p5 (by simp), (hd).cell p6 (by simp), (hd).cell p7 (by simp), hd⟩) (fun hS => ?_)
        refine wpAnyH_take (i := 0) (v := ?_) rfl (by kernel_rfl) (by kernel_rfl) (by kernel_rfl) (fun _ _ _ h => h) (Or.inl ⟨by kernel_rfl, ?_⟩) hS ?_
        rotate_left
        · intro w' hSw
          obtain ⟨g0, g1, g2, g3, g4, g5, g6, g7, _⟩ := hSw
          first | (go_simp; done) | (go_simp; with_reducible rfl)
        simp only [List.getElem_toArray, List.getElem_cons_zero, Act.put, List.setIfInBounds_toArray, List.set_cons_zero, List.set_cons_succ]
        refine wpAnyH_take (i := 1) (v := ?_) rfl (by kernel_rfl) (by kernel_rfl) (by kernel_rfl) (fun _ _ _ h => h) (Or.inl ⟨by kernel_rfl, ?_⟩) hS ?_
        rotate_left
        · intro w' hSw
          obtain ⟨g0, g1, g2, g3, g4, g5, g6, g7, _⟩ := hSw
          first | (go_simp; done) | (go_simp; with_reducible rfl)
        simp only [List.getElem_toArray, List.getElem_cons_zero, List.getElem_cons_succ, Act.put, List.setIfInBounds_toArray, List.set_cons_zero, List.set_cons_succ]
        refine wpAnyH_take (i := 3) (v := ?_) rfl (by kernel_rfl) (by kernel_rfl) (by kernel_rfl) (fun _ _ _ h => h) (Or.inl ⟨by kernel_rfl, ?_⟩) hS ?_
        rotate_left
        · intro w' hSw
          obtain ⟨g0, g1, g2, g3, g4, g5, g6, g7, _⟩ := hSw
          first | (go_simp; done) | (go_simp; with_reducible rfl)
        simp only [List.getElem_toArray, List.getElem_cons_zero, List.getElem_cons_succ, Act.put, List.setIfInBounds_toArray, List.set_cons_zero, List.set_cons_succ]
        refine wpAnyH_take (i := 4) (v := ?_) rfl (by kernel_rfl) (by kernel_rfl) (by kernel_rfl) (fun _ _ _ h => h) (Or.inl ⟨by kernel_rfl, ?_⟩) hS ?_
        rotate_left
        · intro w' hSw
          obtain ⟨g0, g1, g2, g3, g4, g5, g6, g7, _⟩ := hSw
          first | (go_simp; done) | (go_simp; with_reducible rfl)
        simp only [List.getElem_toArray, List.getElem_cons_zero, List.getElem_cons_succ, Act.put, List.setIfInBounds_toArray, List.set_cons_zero, List.set_cons_succ]
        refine wpAnyH_ready (rs := [2, 9]) (by kernel_rfl) (List.cons_ne_nil _ _) ?_
        refine AllReadyH.cons rfl (fun K hK => ?_) ?_
        · go_simp
          go_at_call 21
          refine (to_range _ _ _).mono ?_
          rintro e us ⟨rfl, hg⟩
          have hrus := Lib.hid (((rg_own S7.out.rx).kept (hS.2.2.2.2.2.2.2.2)).kept hg)
          have hF := grownBy_trans (hS.2.2.2.2.2.2.2.2) hg
          clear hg
          refine hK.out _ _ (⟨(hF).cell p0 (by simp), (hF).cell p1 (by simp), (hF).cell p2 (by simp), (hF).cell p3 (by simp), (hF).cell p4 (by simp), (hF).cell p5 (by simp), (hF).cell p6 (by simp), (hF).cell p7 (by simp), hF⟩) (fun hS => ?_)
          clear hF
          clear hK
          try simp only [List.getElem_toArray, List.getElem_cons_zero, List.getElem_cons_succ, Act.put, List.setIfInBounds_toArray, List.set_cons_zero, List.set_cons_succ]
          refine wpAnyH_ready (rs := [5, 9]) (by kernel_rfl) (List.cons_ne_nil _ _) ?_
          refine AllReadyH.cons rfl (fun K hK => ?_) ?_
          · go_simp
            go_at_call 37
            refine (HSI.out _ _ _ (hrus.out)).mono ?_
            rintro e usp ⟨a8, c8, rfl, hg, ho⟩
            have housp := Lib.hid (And.intro ho (show w7.heap.size ≤ us.heap.size from (hS.2.2.2.2.2.2.2.2).size))
            clear ho
            have hF := grownBy_trans (hS.2.2.2.2.2.2.2.2) hg
            clear hg
            refine hK.out _ _ (⟨(hF).cell p0 (by simp), (hF).cell p1 (by simp), (hF).cell p2 (by simp), (hF).cell p3 (by simp), (hF).cell p4 (by simp), (hF).cell p5 (by simp), (hF).cell p6 (by simp), (hF).cell p7 (by simp), hF⟩) (fun hS => ?_)
            clear hF
            clear hK
            try simp only [List.getElem_toArray, List.getElem_cons_zero, List.getElem_cons_succ, Act.put, List.setIfInBounds_toArray, List.set_cons_zero, List.set_cons_succ]
            refine wpAnyH_take (i := 6) (v := ?_) rfl (by kernel_rfl) (by kernel_rfl) (by kernel_rfl) (fun _ _ _ h => h) (Or.inl ⟨by kernel_rfl, ?_⟩) hS ?_
            rotate_left
            · intro w' hSw
              obtain ⟨g0, g1, g2, g3, g4, g5, g6, g7, _⟩ := hSw
              first | (go_simp; done) | (go_simp; with_reducible rfl)
            simp only [List.getElem_toArray, List.getElem_cons_zero, List.getElem_cons_succ, Act.put, List.setIfInBounds_toArray, List.set_cons_zero, List.set_cons_succ]
            refine wpAnyH_take (i := 7) (v := ?_) rfl (by kernel_rfl) (by kernel_rfl) (by kernel_rfl) (fun _ _ _ h => h) (Or.inl ⟨by kernel_rfl, ?_⟩) hS ?_
            rotate_left
            · intro w' hSw
              obtain ⟨g0, g1, g2, g3, g4, g5, g6, g7, _⟩ := hSw
              first | (go_simp; done) | (go_simp; with_reducible rfl)
            simp only [List.getElem_toArray, List.getElem_cons_zero, List.getElem_cons_succ, Act.put, List.setIfInBounds_toArray, List.set_cons_zero, List.set_cons_succ]
            refine wpAnyH_take (i := 8) (v := ?_) rfl (by kernel_rfl) (by kernel_rfl) (by kernel_rfl) (fun _ _ _ h => h) (Or.inl ⟨by kernel_rfl, ?_⟩) hS ?_
            rotate_left
            · intro w' hSw
              obtain ⟨g0, g1, g2, g3, g4, g5, g6, g7, _⟩ := hSw
              first | (go_simp; done) | (go_simp; with_reducible rfl)
            simp only [List.getElem_toArray, List.getElem_cons_zero, List.getElem_cons_succ, Act.put, List.setIfInBounds_toArray, List.set_cons_zero, List.set_cons_succ]
            refine wpAnyH_ready (rs := [9]) (by kernel_rfl) (List.cons_ne_nil _ _) ?_
            refine AllReadyH.cons rfl (fun K hK => ?_) AllReadyH.nil
            go_simp
            refine gen_w (P := fun V => usp.grownBy V none ∧ Bx V usp.heap.size 39 (#[.int .i64 0, .slice none 0 0, .int .i64 0, .int .i64 0, .int .i64 0, .int .i64 0])) ⟨?_, ?_⟩ (fun uspa hp => ?_)
            skip
            · first | with_reducible exact World.grownBy_alloc _ _ _ | with_reducible exact gA grownBy_drew _ | with_reducible exact grownBy_trans (World.grownBy_alloc _ _ _) grownBy_drew
            · first | with_reducible exact Bx.new _ _ _ | with_reducible exact (Bx.new _ _ _).keep grownBy_drew | exact Bx.new _ _ _
            have hF : w7.grownBy uspa none := grownBy_trans (hS.2.2.2.2.2.2.2.2) hp.1
            have hxuspa := Lib.hid hp.2
            have hbA := Lib.hid (show w7.heap.size ≤ usp.heap.size from (hS.2.2.2.2.2.2.2.2).size)
            have houspa := Lib.hid (And.intro (own_kept housp.out.1 hp.1) housp.out.2)
            have hneA := Lib.hid (own_lt housp.out.1 (Nat.le_refl usp.heap.size))
            clear hp
            refine hK.out _ _ (⟨(hF).cell p0 (by simp), (hF).cell p1 (by simp), (hF).cell p2 (by simp), (hF).cell p3 (by simp), (hF).cell p4 (by simp), (hF).cell p5 (by simp), (hF).cell p6 (by simp), (hF).cell p7 (by simp), hF⟩) (fun hS => ?_)
            clear hF
            clear hK
            try simp only [List.getElem_toArray, List.getElem_cons_zero, List.getElem_cons_succ, Act.put, List.setIfInBounds_toArray, List.set_cons_zero, List.set_cons_succ]
            refine wpAnyH_ready (rs := [10]) (by kernel_rfl) (List.cons_ne_nil _ _) ?_
            refine AllReadyH.cons rfl (fun K hK => ?_) AllReadyH.nil
            have z0 := hxuspa.out.c 0 rfl
            have z1 := hxuspa.out.c 1 rfl
            have z2 := hxuspa.out.c 2 rfl
            have z3 := hxuspa.out.c 3 rfl
            have z4 := hxuspa.out.c 4 rfl
            have z5 := hxuspa.out.c 5 rfl
            have f0 := hxuspa.out.f 0
            have f1 := hxuspa.out.f 1
            have f2 := hxuspa.out.f 2
            have f3 := hxuspa.out.f 3
            have f4 := hxuspa.out.f 4
            have f5 := hxuspa.out.f 5
            have lx := hxuspa.out.lt
            go_simp
            refine gen_w (P := fun V => Res w7 V _ a8 c8 P L R F S T) (res_new (hS.2.2.2.2.2.2.2.2) hxuspa.out hbA.out houspa.out.1 houspa.out.2 hneA.out) (fun uz hp => ?_)
            have hF := hp.g
            have hpp := Lib.hid hp
            clear hp z0 f0 z1 f1 z2 f2 z3 f3 z4 f4 z5 f5 lx
            refine hK.out _ _ (⟨(hF).cell p0 (by simp), (hF).cell p1 (by simp), (hF).cell p2 (by simp), (hF).cell p3 (by simp), (hF).cell p4 (by simp), (hF).cell p5 (by simp), (hF).cell p6 (by simp), (hF).cell p7 (by simp), hF⟩) (fun hS => ?_)
            clear hF
            clear hK
            try simp only [List.getElem_toArray, List.getElem_cons_zero, List.getElem_cons_succ, Act.put, List.setIfInBounds_toArray, List.set_cons_zero, List.set_cons_succ]
            refine wpAnyH_take (i := 11) (v := ?_) rfl (by kernel_rfl) (by kernel_rfl) (by kernel_rfl) (fun _ _ _ h => h) (Or.inl ⟨by kernel_rfl, ?_⟩) hS ?_
            rotate_left
            · intro w' hSw
              obtain ⟨g0, g1, g2, g3, g4, g5, g6, g7, _⟩ := hSw
              first | (go_simp; done) | (go_simp; with_reducible rfl)
            simp only [List.getElem_toArray, List.getElem_cons_zero, List.getElem_cons_succ, Act.put, List.setIfInBounds_toArray, List.set_cons_zero, List.set_cons_succ]
            refine wpAnyH_done (by kernel_rfl) ?_ _
            go_wp2_with fail
            go_meet
            exact ⟨_, _, _, rfl, rfl, hpp.out⟩
          refine AllReadyH.cons rfl (fun K hK => ?_) ?_
          · go_simp
            refine gen_w (P := fun V => us.grownBy V none ∧ Bx V us.heap.size 39 (#[.int .i64 0, .slice none 0 0, .int .i64 0, .int .i64 0, .int .i64 0, .int .i64 0])) ⟨?_, ?_⟩ (fun usa hp => ?_)
            skip
            · first | with_reducible exact World.grownBy_alloc _ _ _ | with_reducible exact gA grownBy_drew _ | with_reducible exact grownBy_trans (World.grownBy_alloc _ _ _) grownBy_drew
            · first | with_reducible exact Bx.new _ _ _ | with_reducible exact (Bx.new _ _ _).keep grownBy_drew | exact Bx.new _ _ _
            have hF : w7.grownBy usa none := grownBy_trans (hS.2.2.2.2.2.2.2.2) hp.1
            have hxusa := Lib.hid hp.2
            have hbA := Lib.hid (show w7.heap.size ≤ us.heap.size from (hS.2.2.2.2.2.2.2.2).size)
            have hrusa := Lib.hid (hrus.out.kept hp.1)
            clear hp
            refine hK.out _ _ (⟨(hF).cell p0 (by simp), (hF).cell p1 (by simp), (hF).cell p2 (by simp), (hF).cell p3 (by simp), (hF).cell p4 (by simp), (hF).cell p5 (by simp), (hF).cell p6 (by simp), (hF).cell p7 (by simp), hF⟩) (fun hS => ?_)
            clear hF
            clear hK
            try simp only [List.getElem_toArray, List.getElem_cons_zero, List.getElem_cons_succ, Act.put, List.setIfInBounds_toArray, List.set_cons_zero, List.set_cons_succ]
            refine wpAnyH_ready (rs := [5]) (by kernel_rfl) (List.cons_ne_nil _ _) ?_
            refine AllReadyH.cons rfl (fun K hK => ?_) AllReadyH.nil
            go_simp
            go_at_call 37
            refine (HSI.out _ _ _ (hrusa.out)).mono ?_
            rintro e uspa ⟨a8, c8, rfl, hg, ho⟩
            have houspa := Lib.hid (And.intro ho (show w7.heap.size ≤ usa.heap.size from (hS.2.2.2.2.2.2.2.2).size))
            have hneA := Lib.hid (own_ge ho hxusa.out.lt)
            clear ho
            have hF := grownBy_trans (hS.2.2.2.2.2.2.2.2) hg
            have hxuspa := Lib.hid (hxusa.out.keep hg)
            clear hg
            refine hK.out _ _ (⟨(hF).cell p0 (by simp), (hF).cell p1 (by simp), (hF).cell p2 (by simp), (hF).cell p3 (by simp), (hF).cell p4 (by simp), (hF).cell p5 (by simp), (hF).cell p6 (by simp), (hF).cell p7 (by simp), hF⟩) (fun hS => ?_)
            clear hF
            clear hK
            try simp only [List.getElem_toArray, List.getElem_cons_zero, List.getElem_cons_succ, Act.put, List.setIfInBounds_toArray, List.set_cons_zero, List.set_cons_succ]
            refine wpAnyH_take (i := 6) (v := ?_) rfl (by kernel_rfl) (by kernel_rfl) (by kernel_rfl) (fun _ _ _ h => h) (Or.inl ⟨by kernel_rfl, ?_⟩) hS ?_
            rotate_left
            · intro w' hSw
              obtain ⟨g0, g1, g2, g3, g4, g5, g6, g7, _⟩ := hSw
              first | (go_simp; done) | (go_simp; with_reducible rfl)
            simp only [List.getElem_toArray, List.getElem_cons_zero, List.getElem_cons_succ, Act.put, List.setIfInBounds_toArray, List.set_cons_zero, List.set_cons_succ]
            refine wpAnyH_take (i := 7) (v := ?_) rfl (by kernel_rfl) (by kernel_rfl) (by kernel_rfl) (fun _ _ _ h => h) (Or.inl ⟨by kernel_rfl, ?_⟩) hS ?_
            rotate_left
            · intro w' hSw
              obtain ⟨g0, g1, g2, g3, g4, g5, g6, g7, _⟩ := hSw
              first | (go_simp; done) | (go_simp; with_reducible rfl)
            simp only [List.getElem_toArray, List.getElem_cons_zero, List.getElem_cons_succ, Act.put, List.setIfInBounds_toArray, List.set_cons_zero, List.set_cons_succ]
            refine wpAnyH_take (i := 8) (v := ?_) rfl (by kernel_rfl) (by kernel_rfl) (by kernel_rfl) (fun _ _ _ h => h) (Or.inl ⟨by kernel_rfl, ?_⟩) hS ?_
            rotate_left
            · intro w' hSw
              obtain ⟨g0, g1, g2, g3, g4, g5, g6, g7, _⟩ := hSw
              first | (go_simp; done) | (go_simp; with_reducible rfl)
            simp only [List.getElem_toArray, List.getElem_cons_zero, List.getElem_cons_succ, Act.put, List.setIfInBounds_toArray, List.set_cons_zero, List.set_cons_succ]
            refine wpAnyH_ready (rs := [10]) (by kernel_rfl) (List.cons_ne_nil _ _) ?_
            refine AllReadyH.cons rfl (fun K hK => ?_) AllReadyH.nil
            have z0 := hxuspa.out.c 0 rfl
            have z1 := hxuspa.out.c 1 rfl
            have z2 := hxuspa.out.c 2 rfl
            have z3 := hxuspa.out.c 3 rfl
            have z4 := hxuspa.out.c 4 rfl
            have z5 := hxuspa.out.c 5 rfl
            have f0 := hxuspa.out.f 0
            have f1 := hxuspa.out.f 1
            have f2 := hxuspa.out.f 2
            have f3 := hxuspa.out.f 3
            have f4 := hxuspa.out.f 4
            have f5 := hxuspa.out.f 5
            have lx := hxuspa.out.lt
            go_simp
            refine gen_w (P := fun V => Res w7 V _ a8 c8 P L R F S T) (res_new (hS.2.2.2.2.2.2.2.2) hxuspa.out hbA.out houspa.out.1 houspa.out.2 hneA.out) (fun uz hp => ?_)
            have hF := hp.g
            have hpp := Lib.hid hp
            clear hp z0 f0 z1 f1 z2 f2 z3 f3 z4 f4 z5 f5 lx
            refine hK.out _ _ (⟨(hF).cell p0 (by simp), (hF).cell p1 (by simp), (hF).cell p2 (by simp), (hF).cell p3 (by simp), (hF).cell p4 (by simp), (hF).cell p5 (by simp), (hF).cell p6 (by simp), (hF).cell p7 (by simp), hF⟩) (fun hS => ?_)
            clear hF
            clear hK
            try simp only [List.getElem_toArray, List.getElem_cons_zero, List.getElem_cons_succ, Act.put, List.setIfInBounds_toArray, List.set_cons_zero, List.set_cons_succ]
            refine wpAnyH_take (i := 11) (v := ?_) rfl (by kernel_rfl) (by kernel_rfl) (by kernel_rfl) (fun _ _ _ h => h) (Or.inl ⟨by kernel_rfl, ?_⟩) hS ?_
            rotate_left
            · intro w' hSw
              obtain ⟨g0, g1, g2, g3, g4, g5, g6, g7, _⟩ := hSw
              first | (go_simp; done) | (go_simp; with_reducible rfl)
            simp only [List.getElem_toArray, List.getElem_cons_zero, List.getElem_cons_succ, Act.put, List.setIfInBounds_toArray, List.set_cons_zero, List.set_cons_succ]
            refine wpAnyH_done (by kernel_rfl) ?_ _
            go_wp2_with fail
            go_meet
            exact ⟨_, _, _, rfl, rfl, hpp.out⟩
          exact AllReadyH.nil
        refine AllReadyH.cons rfl (fun K hK => ?_) ?_
        · go_simp
          refine gen_w (P := fun V => w7.grownBy V none ∧ Bx V w7.heap.size 39 (#[.int .i64 0, .slice none 0 0, .int .i64 0, .int .i64 0, .int .i64 0, .int .i64 0])) ⟨?_, ?_⟩ (fun ua hp => ?_)
          skip
          · first | with_reducible exact World.grownBy_alloc _ _ _ | with_reducible exact gA grownBy_drew _ | with_reducible exact grownBy_trans (World.grownBy_alloc _ _ _) grownBy_drew
          · first | with_reducible exact Bx.new _ _ _ | with_reducible exact (Bx.new _ _ _).keep grownBy_drew | exact Bx.new _ _ _
          have hF : w7.grownBy ua none := hp.1
          have hxua := Lib.hid hp.2
          have hbA := Lib.hid (show w7.heap.size ≤ w7.heap.size from Nat.le_refl _)
          clear hp
          refine hK.out _ _ (⟨(hF).cell p0 (by simp), (hF).cell p1 (by simp), (hF).cell p2 (by simp), (hF).cell p3 (by simp), (hF).cell p4 (by simp), (hF).cell p5 (by simp), (hF).cell p6 (by simp), (hF).cell p7 (by simp), hF⟩) (fun hS => ?_)
          clear hF
          clear hK
          try simp only [List.getElem_toArray, List.getElem_cons_zero, List.getElem_cons_succ, Act.put, List.setIfInBounds_toArray, List.set_cons_zero, List.set_cons_succ]
          refine wpAnyH_ready (rs := [2]) (by kernel_rfl) (List.cons_ne_nil _ _) ?_
          refine AllReadyH.cons rfl (fun K hK => ?_) AllReadyH.nil
          go_simp
          go_at_call 21
          refine (to_range _ _ _).mono ?_
          rintro e usa ⟨rfl, hg⟩
          have hrusa := Lib.hid (((rg_own S7.out.rx).kept (hS.2.2.2.2.2.2.2.2)).kept hg)
          have hF := grownBy_trans (hS.2.2.2.2.2.2.2.2) hg
          have hxusa := Lib.hid (hxua.out.keep hg)
          clear hg
          refine hK.out _ _ (⟨(hF).cell p0 (by simp), (hF).cell p1 (by simp), (hF).cell p2 (by simp), (hF).cell p3 (by simp), (hF).cell p4 (by simp), (hF).cell p5 (by simp), (hF).cell p6 (by simp), (hF).cell p7 (by simp), hF⟩) (fun hS => ?_)
          clear hF
          clear hK
          try simp only [List.getElem_toArray, List.getElem_cons_zero, List.getElem_cons_succ, Act.put, List.setIfInBounds_toArray, List.set_cons_zero, List.set_cons_succ]
          refine wpAnyH_ready (rs := [5]) (by kernel_rfl) (List.cons_ne_nil _ _) ?_
          refine AllReadyH.cons rfl (fun K hK => ?_) AllReadyH.nil
          go_simp
          go_at_call 37
          refine (HSI.out _ _ _ (hrusa.out)).mono ?_
          rintro e uspa ⟨a8, c8, rfl, hg, ho⟩
          have houspa := Lib.hid (And.intro ho (show w7.heap.size ≤ usa.heap.size from (hS.2.2.2.2.2.2.2.2).size))
          have hneA := Lib.hid (own_ge ho hxusa.out.lt)
          clear ho
          have hF := grownBy_trans (hS.2.2.2.2.2.2.2.2) hg
          have hxuspa := Lib.hid (hxusa.out.keep hg)
          clear hg
          refine hK.out _ _ (⟨(hF).cell p0 (by simp), (hF).cell p1 (by simp), (hF).cell p2 (by simp), (hF).cell p3 (by simp), (hF).cell p4 (by simp), (hF).cell p5 (by simp), (hF).cell p6 (by simp), (hF).cell p7 (by simp), hF⟩) (fun hS => ?_)
          clear hF
          clear hK
          try simp only [List.getElem_toArray, List.getElem_cons_zero, List.getElem_cons_succ, Act.put, List.setIfInBounds_toArray, List.set_cons_zero, List.set_cons_succ]
          refine wpAnyH_take (i := 6) (v := ?_) rfl (by kernel_rfl) (by kernel_rfl) (by kernel_rfl) (fun _ _ _ h => h) (Or.inl ⟨by kernel_rfl, ?_⟩) hS ?_
          rotate_left
          · intro w' hSw
            obtain ⟨g0, g1, g2, g3, g4, g5, g6, g7, _⟩ := hSw
            first | (go_simp; done) | (go_simp; with_reducible rfl)
          simp only [List.getElem_toArray, List.getElem_cons_zero, List.getElem_cons_succ, Act.put, List.setIfInBounds_toArray, List.set_cons_zero, List.set_cons_succ]
          refine wpAnyH_take (i := 7) (v := ?_) rfl (by kernel_rfl) (by kernel_rfl) (by kernel_rfl) (fun _ _ _ h => h) (Or.inl ⟨by kernel_rfl, ?_⟩) hS ?_
          rotate_left
          · intro w' hSw
            obtain ⟨g0, g1, g2, g3, g4, g5, g6, g7, _⟩ := hSw
            first | (go_simp; done) | (go_simp; with_reducible rfl)
          simp only [List.getElem_toArray, List.getElem_cons_zero, List.getElem_cons_succ, Act.put, List.setIfInBounds_toArray, List.set_cons_zero, List.set_cons_succ]
          refine wpAnyH_take (i := 8) (v := ?_) rfl (by kernel_rfl) (by kernel_rfl) (by kernel_rfl) (fun _ _ _ h => h) (Or.inl ⟨by kernel_rfl, ?_⟩) hS ?_
          rotate_left
          · intro w' hSw
            obtain ⟨g0, g1, g2, g3, g4, g5, g6, g7, _⟩ := hSw
            first | (go_simp; done) | (go_simp; with_reducible rfl)
          simp only [List.getElem_toArray, List.getElem_cons_zero, List.getElem_cons_succ, Act.put, List.setIfInBounds_toArray, List.set_cons_zero, List.set_cons_succ]
          refine wpAnyH_ready (rs := [10]) (by kernel_rfl) (List.cons_ne_nil _ _) ?_
          refine AllReadyH.cons rfl (fun K hK => ?_) AllReadyH.nil
          have z0 := hxuspa.out.c 0 rfl
          have z1 := hxuspa.out.c 1 rfl
          have z2 := hxuspa.out.c 2 rfl
          have z3 := hxuspa.out.c 3 rfl
          have z4 := hxuspa.out.c 4 rfl
          have z5 := hxuspa.out.c 5 rfl
          have f0 := hxuspa.out.f 0
          have f1 := hxuspa.out.f 1
          have f2 := hxuspa.out.f 2
          have f3 := hxuspa.out.f 3
          have f4 := hxuspa.out.f 4
          have f5 := hxuspa.out.f 5
          have lx := hxuspa.out.lt
          go_simp
          refine gen_w (P := fun V => Res w7 V _ a8 c8 P L R F S T) (res_new (hS.2.2.2.2.2.2.2.2) hxuspa.out hbA.out houspa.out.1 houspa.out.2 hneA.out) (fun uz hp => ?_)
          have hF := hp.g
          have hpp := Lib.hid hp
          clear hp z0 f0 z1 f1 z2 f2 z3 f3 z4 f4 z5 f5 lx
          refine hK.out _ _ (⟨(hF).cell p0 (by simp), (hF).cell p1 (by simp), (hF).cell p2 (by simp), (hF).cell p3 (by simp), (hF).cell p4 (by simp), (hF).cell p5 (by simp), (hF).cell p6 (by simp), (hF).cell p7 (by simp), hF⟩) (fun hS => ?_)
          clear hF
          clear hK
          try simp only [List.getElem_toArray, List.getElem_cons_zero, List.getElem_cons_succ, Act.put, List.setIfInBounds_toArray, List.set_cons_zero, List.set_cons_succ]
          refine wpAnyH_take (i := 11) (v := ?_) rfl (by kernel_rfl) (by kernel_rfl) (by kernel_rfl) (fun _ _ _ h => h) (Or.inl ⟨by kernel_rfl, ?_⟩) hS ?_
          rotate_left
          · intro w' hSw
            obtain ⟨g0, g1, g2, g3, g4, g5, g6, g7, _⟩ := hSw
            first | (go_simp; done) | (go_simp; with_reducible rfl)
          simp only [List.getElem_toArray, List.getElem_cons_zero, List.getElem_cons_succ, Act.put, List.setIfInBounds_toArray, List.set_cons_zero, List.set_cons_succ]
          refine wpAnyH_done (by kernel_rfl) ?_ _
          go_wp2_with fail
          go_meet
          exact ⟨_, _, _, rfl, rfl, hpp.out⟩
        exact AllReadyH.nil
      case rest =>
        obtain ⟨BG, aG, cG, rfl, rfl, hres⟩ := hcut
        have S8 := Lib.hid (S7.out.keep hres.g)
        have N8 := Lib.hid (And.intro (own_apart2 S7.out.rx hres.o (Nat.le_refl _)) (And.intro (own_lt S7.out.rx hres.ge) (And.intro (own_apart1 S7.out.r hres.o (Nat.le_refl _)) (And.intro (own_ge hres.o S7.out.b.lt) hres.ne))))
        have G8 := Lib.hid (And.intro hres.b hres.o)
        have H17 := Lib.hid (show w1.heap.size ≤ w7.heap.size from S7.out.g.size)
        clear hres S7
        generalize hwc : wc = w8 at *
        clear hwc
        have b0 := (S8.out.b).c 0 rfl
        have b1 := (S8.out.b).c 1 rfl
        have b2 := (S8.out.b).c 2 rfl
        have b3 := (S8.out.b).c 3 rfl
        have b4 := (S8.out.b).c 4 rfl
        have b5 := (S8.out.b).c 5 rfl
        have x0 := (G8.out.1).c 0 rfl
        have x1 := (G8.out.1).c 1 rfl
        have x2 := (G8.out.1).c 2 rfl
        have x3 := (G8.out.1).c 3 rfl
        have x4 := (G8.out.1).c 4 rfl
        have x5 := (G8.out.1).c 5 rfl
        go_wp2_with fail
        refine (eq_bbr P aG a5 cG c5 L R F S T _ (rg_own G8.out.2) (rg_own S8.out.r) (by omega)).mono ?_
        rintro e w9 ⟨rfl, hg⟩
        have S9 := Lib.hid (S8.out.keep hg)
        have G9 := Lib.hid (And.intro (G8.out.1.keep hg) (own_kept G8.out.2 hg))
        clear hg S8 G8
        clear b0 b1 b2 b3 b4 b5
        clear x0 x1 x2 x3 x4 x5
        have A9 := Lib.hid (And.intro (H1.out.1.keep S9.out.g).b (H1.out.2.kept S9.out.g))
        have b0 := (A9.out.1).c 0 rfl
        have b1 := (A9.out.1).c 1 rfl
        have b2 := (A9.out.1).c 2 rfl
        have b3 := (A9.out.1).c 3 rfl
        have b4 := (A9.out.1).c 4 rfl
        have b5 := (A9.out.1).c 5 rfl
        have x0 := (S9.out.bx).c 0 rfl
        have x1 := (S9.out.bx).c 1 rfl
        have x2 := (S9.out.bx).c 2 rfl
        have x3 := (S9.out.bx).c 3 rfl
        have x4 := (S9.out.bx).c 4 rfl
        have x5 := (S9.out.bx).c 5 rfl
        go_wp2_with fail
        refine wp_region_held_drew (S := fun w' => w'.cell? ⟨w.heap.size, 0, none⟩ = some (.int .i64 a0_0) ∧ w'.cell? ⟨w.heap.size, 1, none⟩ = some (.slice a0_1 l0_1.length cap0_1) ∧ w'.cell? ⟨w.heap.size, 2, none⟩ = some (.int .i64 a0_2) ∧ w'.cell? ⟨w.heap.size, 3, none⟩ = some (.int .i64 a0_3) ∧ w'.cell? ⟨w.heap.size, 4, none⟩ = some (.int .i64 a0_4) ∧ w'.cell? ⟨w.heap.size, 5, none⟩ = some (.int .i64 a0_5) ∧ w'.cell? ⟨w6.heap.size, 0, none⟩ = some (.int .i64 a0_0) ∧ w'.cell? ⟨w6.heap.size, 1, none⟩ = some (.slice (some ⟨q6, 0, none⟩) l0_1.length l0_1.length) ∧ w'.cell? ⟨w6.heap.size, 2, none⟩ = some (.int .i64 a0_2) ∧ w'.cell? ⟨w6.heap.size, 3, none⟩ = some (.int .i64 a0_3) ∧ w'.cell? ⟨w6.heap.size, 4, none⟩ = some (.int .i64 a0_4) ∧ w'.cell? ⟨w6.heap.size, 5, none⟩ = some (.int .i64 a0_5) ∧ w9.grownBy w' none) (by kernel_rfl) (⟨by first | assumption | (go_simp; done) | (simp [*]; done), by first | assumption | (go_simp; done) | (simp [*]; done), by first | assumption | (go_simp; done) | (simp [*]; done), by first | assumption | (go_simp; done) | (simp [*]; done), by first | assumption | (go_simp; done) | (simp [*]; done), by first | assumption | (go_simp; done) | (simp [*]; done), by first | assumption | (go_simp; done) | (simp [*]; done), by first | assumption | (go_simp; done) | (simp [*]; done), by first | assumption | (go_simp; done) | (simp [*]; done), by first | assumption | (go_simp; done) | (simp [*]; done), by first | assumption | (go_simp; done) | (simp [*]; done), by first | assumption | (go_simp; done) | (simp [*]; done), grownBy_trans (World.grownBy.refl _ _) grownBy_drew⟩) (fun hS => ?_)
        refine wpAnyH_take (i := 0) (v := ?_) rfl (by kernel_rfl) (by kernel_rfl) (by kernel_rfl) (fun _ _ _ h => h) (Or.inl ⟨by kernel_rfl, ?_⟩) hS ?_
        rotate_left
        · intro w' hSw
          obtain ⟨g0, g1, g2, g3, g4, g5, g6, g7, g8, g9, g10, g11, _⟩ := hSw
          first | (go_simp; done) | (go_simp; with_reducible rfl)
        simp only [List.getElem_toArray, List.getElem_cons_zero, Act.put, List.setIfInBounds_toArray, List.set_cons_zero, List.set_cons_succ]
        refine wpAnyH_take (i := 1) (v := ?_) rfl (by kernel_rfl) (by kernel_rfl) (by kernel_rfl) (fun _ _ _ h => h) (Or.inl ⟨by kernel_rfl, ?_⟩) hS ?_
        rotate_left
        · intro w' hSw
          obtain ⟨g0, g1, g2, g3, g4, g5, g6, g7, g8, g9, g10, g11, _⟩ := hSw
          first | (go_simp; done) | (go_simp; with_reducible rfl)
        simp only [List.getElem_toArray, List.getElem_cons_zero, List.getElem_cons_succ, Act.put, List.setIfInBounds_toArray, List.set_cons_zero, List.set_cons_succ]
        refine wpAnyH_ready (rs := [2]) (by kernel_rfl) (List.cons_ne_nil _ _) ?_
        refine AllReadyH.cons rfl (fun K hK => ?_) AllReadyH.nil
        go_simp
        go_at_call 34
        refine (to_bbr _ _ _ _ _ _ _ _ _ (A9.out.2.kept (hS.2.2.2.2.2.2.2.2.2.2.2.2)) hl).mono ?_
        rintro e w10 ⟨q10, rfl, hg, ho⟩
        have H10 := Lib.hid (And.intro (rg_own ho) (rg_own (own_kept S9.out.rx (grownBy_trans (hS.2.2.2.2.2.2.2.2.2.2.2.2) hg))))
        refine hK.out _ _ (⟨hg.cell (hS.1) (by simp), hg.cell (hS.2.1) (by simp), hg.cell (hS.2.2.1) (by simp), hg.cell (hS.2.2.2.1) (by simp), hg.cell (hS.2.2.2.2.1) (by simp), hg.cell (hS.2.2.2.2.2.1) (by simp), hg.cell (hS.2.2.2.2.2.2.1) (by simp), hg.cell (hS.2.2.2.2.2.2.2.1) (by simp), hg.cell (hS.2.2.2.2.2.2.2.2.1) (by simp), hg.cell (hS.2.2.2.2.2.2.2.2.2.1) (by simp), hg.cell (hS.2.2.2.2.2.2.2.2.2.2.1) (by simp), hg.cell (hS.2.2.2.2.2.2.2.2.2.2.2.1) (by simp), grownBy_trans (hS.2.2.2.2.2.2.2.2.2.2.2.2) hg⟩) (fun hS => ?_)
        clear hK
        try simp only [List.getElem_toArray, List.getElem_cons_zero, List.getElem_cons_succ, Act.put, List.setIfInBounds_toArray, List.set_cons_zero, List.set_cons_succ]
        refine wpAnyH_ready (rs := [3]) (by kernel_rfl) (List.cons_ne_nil _ _) ?_
        refine AllReadyH.cons rfl (fun K hK => ?_) AllReadyH.nil
        go_simp
        go_at_call 29
        refine (eq_bbr _ _ _ _ _ _ _ _ _ _ _ H10.out.2 H10.out.1 hl).mono ?_
        rintro e w11 ⟨rfl, hg⟩
        refine hK.out _ _ (⟨hg.cell (hS.1) (by simp), hg.cell (hS.2.1) (by simp), hg.cell (hS.2.2.1) (by simp), hg.cell (hS.2.2.2.1) (by simp), hg.cell (hS.2.2.2.2.1) (by simp), hg.cell (hS.2.2.2.2.2.1) (by simp), hg.cell (hS.2.2.2.2.2.2.1) (by simp), hg.cell (hS.2.2.2.2.2.2.2.1) (by simp), hg.cell (hS.2.2.2.2.2.2.2.2.1) (by simp), hg.cell (hS.2.2.2.2.2.2.2.2.2.1) (by simp), hg.cell (hS.2.2.2.2.2.2.2.2.2.2.1) (by simp), hg.cell (hS.2.2.2.2.2.2.2.2.2.2.2.1) (by simp), grownBy_trans (hS.2.2.2.2.2.2.2.2.2.2.2.2) hg⟩) (fun hS => ?_)
        clear hK
        try simp only [List.getElem_toArray, List.getElem_cons_zero, List.getElem_cons_succ, Act.put, List.setIfInBounds_toArray, List.set_cons_zero, List.set_cons_succ]
        refine wpAnyH_take (i := 4) (v := ?_) rfl (by kernel_rfl) (by kernel_rfl) (by kernel_rfl) (fun _ _ _ h => h) (Or.inl ⟨by kernel_rfl, ?_⟩) hS ?_
        rotate_left
        · intro w' hSw
          obtain ⟨g0, g1, g2, g3, g4, g5, g6, g7, g8, g9, g10, g11, _⟩ := hSw
          first | (go_simp; done) | (go_simp; with_reducible rfl)
        simp only [List.getElem_toArray, List.getElem_cons_zero, List.getElem_cons_succ, Act.put, List.setIfInBounds_toArray, List.set_cons_zero, List.set_cons_succ]
        refine wpAnyH_done (by kernel_rfl) ?_ _
        have hgw := hS.2.2.2.2.2.2.2.2.2.2.2.2
        have S11 := Lib.hid (S9.out.keep hgw)
        have G11 := Lib.hid (And.intro (G9.out.1.keep hgw) (own_kept G9.out.2 hgw))
        clear hgw hS S9 G9
        clear b0 b1 b2 b3 b4 b5
        clear x0 x1 x2 x3 x4 x5
        have x0 := (S11.out.bx).c 0 rfl
        have x1 := (S11.out.bx).c 1 rfl
        have x2 := (S11.out.bx).c 2 rfl
        have x3 := (S11.out.bx).c 3 rfl
        have x4 := (S11.out.bx).c 4 rfl
        have x5 := (S11.out.bx).c 5 rfl
        go_wp2_with fail
        refine (mark_bbr _ _ _ _ _ _ _ _ _ _ S11.out.rx hl).mono ?_
        rintro e w12 ⟨rfl, ⟨wm, hg0, hg⟩, ho⟩
        have hq : Sg w1 B5 w1.heap.size (bbC P a5 L.length c5 R F S T) a5 c5 L BG w7.heap.size (bbC P aG L.length cG R F S T) (.slice aG L.length cG) L.length (rgsV L) w12 := ⟨grown_row_none (grownBy_trans S11.out.g hg0) hg (own_kept S11.out.rx hg0) H15.out, bx_apart (S11.out.b.keep hg0) hg N5.out.2.1, World.ownsRow.kept (own_kept S11.out.r hg0) hg N5.out.1, bx_apart (G11.out.1.keep hg0) hg N8.out.2.1, World.ownsRow.kept (own_kept G11.out.2 hg0) hg N8.out.1⟩
        have S12 := Lib.hid hq
        clear hg hg0 ho hq S11 G11
        clear x0 x1 x2 x3 x4 x5
        have hk1 : ¬ 1 + 2 * (l0_1.length : Int) < 0 := by omega
        have b0 := (S12.out.b).c 0 rfl
        have b1 := (S12.out.b).c 1 rfl
        have b2 := (S12.out.b).c 2 rfl
        have b3 := (S12.out.b).c 3 rfl
        have b4 := (S12.out.b).c 4 rfl
        have b5 := (S12.out.b).c 5 rfl
        have x0 := (S12.out.bg).c 0 rfl
        have x1 := (S12.out.bg).c 1 rfl
        have x2 := (S12.out.bg).c 2 rfl
        have x3 := (S12.out.bg).c 3 rfl
        have x4 := (S12.out.bg).c 4 rfl
        have x5 := (S12.out.bg).c 5 rfl
        go_wp2_with fail
        refine (eq_bbr P aG a5 cG c5 L R F S T _ (rg_own S12.out.rg) (rg_own S12.out.r) (by omega)).mono ?_
        rintro e w13 ⟨rfl, hg⟩
        have S13 := Lib.hid (S12.out.keep hg)
        clear hg S12
        clear b0 b1 b2 b3 b4 b5
        clear x0 x1 x2 x3 x4 x5
        have x0 := (S13.out.bg).c 0 rfl
        have x1 := (S13.out.bg).c 1 rfl
        have x2 := (S13.out.bg).c 2 rfl
        have x3 := (S13.out.bg).c 3 rfl
        have x4 := (S13.out.bg).c 4 rfl
        have x5 := (S13.out.bg).c 5 rfl
        go_wp2_with fail
        refine (mark_bbr _ _ _ _ _ _ _ _ _ _ S13.out.rg (by omega)).mono ?_
        rintro e w14 ⟨rfl, ⟨wm, hg0, hg⟩, ho⟩
        have hq : Sg w1 B5 w1.heap.size (bbC P a5 L.length c5 R F S T) a5 c5 L BG w7.heap.size (bbC P aG L.length cG R F S T) (.slice aG L.length cG) L.length (rgsV (mkR 1 L.length)) w14 := ⟨grown_row_none (grownBy_trans S13.out.g hg0) hg (own_kept S13.out.rg hg0) H17.out, bx_apart (S13.out.b.keep hg0) hg N8.out.2.2.2.1, World.ownsRow.kept (own_kept S13.out.r hg0) hg N8.out.2.2.1, bx_apart (S13.out.bg.keep hg0) hg N8.out.2.2.2.2, ho⟩
        have S14 := Lib.hid hq
        clear hg hg0 ho hq S13
        clear x0 x1 x2 x3 x4 x5
        have hk2 : ¬ 1 + 2 * (L.length : Int) < 0 := by omega
        have x0 := (S14.out.bg).c 0 rfl
        have x1 := (S14.out.bg).c 1 rfl
        have x2 := (S14.out.bg).c 2 rfl
        have x3 := (S14.out.bg).c 3 rfl
        have x4 := (S14.out.bg).c 4 rfl
        have x5 := (S14.out.bg).c 5 rfl
        go_wp2_with fail
        refine (held_bbr P aG cG L.length R F S T _ (rg_mark S14.out.rg) (by omega)).mono ?_
        rintro e w15 ⟨rfl, hg⟩
        have S15 := Lib.hid (S14.out.keep hg)
        clear hg S14
        clear x0 x1 x2 x3 x4 x5
        go_upto_region 24 with fail
        go_cut [18, 19] (fun s18 s19 wx => ∃ (B : Nat) (a : Option Addr) (c : Nat), s18 = .pointer (some ⟨B, 0, none⟩) ∧ s19 = .bool D ∧ Res w15 wx B a c P L R F S T)
        case first =>
          have A15 := Lib.hid (And.intro (H1.out.1.keep S15.out.g) (H1.out.2.kept S15.out.g))
          have p0 := (A15.out.1.b).c 0 rfl
          have p1 := (A15.out.1.b).c 1 rfl
          have p2 := (A15.out.1.b).c 2 rfl
          have p3 := (A15.out.1.b).c 3 rfl
          have p4 := (A15.out.1.b).c 4 rfl
          have p5 := (A15.out.1.b).c 5 rfl
          have p6 := (A15.out.1.x).c 0 rfl
          have p7 := (A15.out.1.x).c 1 rfl
          refine wp_region_held_drew (S := fun w' => w'.cell? ⟨w.heap.size, 0, none⟩ = some (.int .i64 a0_0) ∧ w'.cell? ⟨w.heap.size, 1, none⟩ = some (.slice a0_1 l0_1.length cap0_1) ∧ w'.cell? ⟨w.heap.size, 2, none⟩ = some (.int .i64 a0_2) ∧ w'.cell? ⟨w.heap.size, 3, none⟩ = some (.int .i64 a0_3) ∧ w'.cell? ⟨w.heap.size, 4, none⟩ = some (.int .i64 a0_4) ∧ w'.cell? ⟨w.heap.size, 5, none⟩ = some (.int .i64 a0_5) ∧ w'.cell? ⟨w.heap.size + 1, 0, none⟩ = some (.int .i64 a1_0) ∧ w'.cell? ⟨w.heap.size + 1, 1, none⟩ = some (.int .i64 a1_1) ∧ w15.grownBy w' none) (by kernel_rfl) (by have hd : w15.grownBy w15.drew none := grownBy_drew; exact ⟨(hd).cell p0 (by simp), (hd).cell p1 (by simp), (hd).cell p2 (by simp), (hd).cell p3 (by simp), (hd).cell p4 (by simp), (hd).cell p5 (by simp), (hd).cell p6 (by simp), (hd).cell p7 (by simp), hd⟩) (fun hS => ?_)
          refine wpAnyH_take (i := 0) (v := ?_) rfl (by kernel_rfl) (by kernel_rfl) (by kernel_rfl) (fun _ _ _ h => h) (Or.inl ⟨by kernel_rfl, ?_⟩) hS ?_
          rotate_left
          · intro w' hSw
            obtain ⟨g0, g1, g2, g3, g4, g5, g6, g7, _⟩ := hSw
            first | (go_simp; done) | (go_simp; with_reducible rfl)
          simp only [List.getElem_toArray, List.getElem_cons_zero, Act.put, List.setIfInBounds_toArray, List.set_cons_zero, List.set_cons_succ]
          refine wpAnyH_take (i := 2) (v := ?_) rfl (by kernel_rfl) (by kernel_rfl) (by kernel_rfl) (fun _ _ _ h => h) (Or.inl ⟨by kernel_rfl, ?_⟩) hS ?_
          rotate_left
          · intro w' hSw
            obtain ⟨g0, g1, g2, g3, g4, g5, g6, g7, _⟩ := hSw
            first | (go_simp; done) | (go_simp; with_reducible rfl)
          simp only [List.getElem_toArray, List.getElem_cons_zero, List.getElem_cons_succ, Act.put, List.setIfInBounds_toArray, List.set_cons_zero, List.set_cons_succ]
          refine wpAnyH_take (i := 4) (v := ?_) rfl (by kernel_rfl) (by kernel_rfl) (by kernel_rfl) (fun _ _ _ h => h) (Or.inl ⟨by kernel_rfl, ?_⟩) hS ?_
          rotate_left
          · intro w' hSw
            obtain ⟨g0, g1, g2, g3, g4, g5, g6, g7, _⟩ := hSw
            first | (go_simp; done) | (go_simp; with_reducible rfl)
          simp only [List.getElem_toArray, List.getElem_cons_zero, List.getElem_cons_succ, Act.put, List.setIfInBounds_toArray, List.set_cons_zero, List.set_cons_succ]
          refine wpAnyH_take (i := 5) (v := ?_) rfl (by kernel_rfl) (by kernel_rfl) (by kernel_rfl) (fun _ _ _ h => h) (Or.inl ⟨by kernel_rfl, ?_⟩) hS ?_
          rotate_left
          · intro w' hSw
            obtain ⟨g0, g1, g2, g3, g4, g5, g6, g7, _⟩ := hSw
            first | (go_simp; done) | (go_simp; with_reducible rfl)
          simp only [List.getElem_toArray, List.getElem_cons_zero, List.getElem_cons_succ, Act.put, List.setIfInBounds_toArray, List.set_cons_zero, List.set_cons_succ]
          refine wpAnyH_ready (rs := [1, 10]) (by kernel_rfl) (List.cons_ne_nil _ _) ?_
          refine AllReadyH.cons rfl (fun K hK => ?_) ?_
          · go_simp
            go_at_call 34
            refine (to_bbr _ _ _ _ _ _ _ _ _ (A15.out.2.kept (hS.2.2.2.2.2.2.2.2)) hl).mono ?_
            rintro e ut ⟨q16, rfl, hg, ho⟩
            have hrut := Lib.hid (rg_own ho)
            clear ho
            have hF := grownBy_trans (hS.2.2.2.2.2.2.2.2) hg
            clear hg
            refine hK.out _ _ (⟨(hF).cell p0 (by simp), (hF).cell p1 (by simp), (hF).cell p2 (by simp), (hF).cell p3 (by simp), (hF).cell p4 (by simp), (hF).cell p5 (by simp), (hF).cell p6 (by simp), (hF).cell p7 (by simp), hF⟩) (fun hS => ?_)
            clear hF
            clear hK
            try simp only [List.getElem_toArray, List.getElem_cons_zero, List.getElem_cons_succ, Act.put, List.setIfInBounds_toArray, List.set_cons_zero, List.set_cons_succ]
            refine wpAnyH_ready (rs := [3, 10]) (by kernel_rfl) (List.cons_ne_nil _ _) ?_
            refine AllReadyH.cons rfl (fun K hK => ?_) ?_
            · go_simp
              go_at_call 21
              refine (to_range _ _ _).mono ?_
              rintro e uts ⟨rfl, hg⟩
              have hruts := Lib.hid ((hrut.out).kept hg)
              have hF := grownBy_trans (hS.2.2.2.2.2.2.2.2) hg
              clear hg
              refine hK.out _ _ (⟨(hF).cell p0 (by simp), (hF).cell p1 (by simp), (hF).cell p2 (by simp), (hF).cell p3 (by simp), (hF).cell p4 (by simp), (hF).cell p5 (by simp), (hF).cell p6 (by simp), (hF).cell p7 (by simp), hF⟩) (fun hS => ?_)
              clear hF
              clear hK
              try simp only [List.getElem_toArray, List.getElem_cons_zero, List.getElem_cons_succ, Act.put, List.setIfInBounds_toArray, List.set_cons_zero, List.set_cons_succ]
              refine wpAnyH_ready (rs := [6, 10]) (by kernel_rfl) (List.cons_ne_nil _ _) ?_
              refine AllReadyH.cons rfl (fun K hK => ?_) ?_
              · go_simp
                go_at_call 37
                refine (HSI.out _ _ _ (hruts.out)).mono ?_
                rintro e utsp ⟨a16, c16, rfl, hg, ho⟩
                have houtsp := Lib.hid (And.intro ho (show w15.heap.size ≤ uts.heap.size from (hS.2.2.2.2.2.2.2.2).size))
                clear ho
                have hF := grownBy_trans (hS.2.2.2.2.2.2.2.2) hg
                clear hg
                refine hK.out _ _ (⟨(hF).cell p0 (by simp), (hF).cell p1 (by simp), (hF).cell p2 (by simp), (hF).cell p3 (by simp), (hF).cell p4 (by simp), (hF).cell p5 (by simp), (hF).cell p6 (by simp), (hF).cell p7 (by simp), hF⟩) (fun hS => ?_)
                clear hF
                clear hK
                try simp only [List.getElem_toArray, List.getElem_cons_zero, List.getElem_cons_succ, Act.put, List.setIfInBounds_toArray, List.set_cons_zero, List.set_cons_succ]
                refine wpAnyH_take (i := 7) (v := ?_) rfl (by kernel_rfl) (by kernel_rfl) (by kernel_rfl) (fun _ _ _ h => h) (Or.inl ⟨by kernel_rfl, ?_⟩) hS ?_
                rotate_left
                · intro w' hSw
                  obtain ⟨g0, g1, g2, g3, g4, g5, g6, g7, _⟩ := hSw
                  first | (go_simp; done) | (go_simp; with_reducible rfl)
                simp only [List.getElem_toArray, List.getElem_cons_zero, List.getElem_cons_succ, Act.put, List.setIfInBounds_toArray, List.set_cons_zero, List.set_cons_succ]
                refine wpAnyH_take (i := 8) (v := ?_) rfl (by kernel_rfl) (by kernel_rfl) (by kernel_rfl) (fun _ _ _ h => h) (Or.inl ⟨by kernel_rfl, ?_⟩) hS ?_
                rotate_left
                · intro w' hSw
                  obtain ⟨g0, g1, g2, g3, g4, g5, g6, g7, _⟩ := hSw
                  first | (go_simp; done) | (go_simp; with_reducible rfl)
                simp only [List.getElem_toArray, List.getElem_cons_zero, List.getElem_cons_succ, Act.put, List.setIfInBounds_toArray, List.set_cons_zero, List.set_cons_succ]
                refine wpAnyH_take (i := 9) (v := ?_) rfl (by kernel_rfl) (by kernel_rfl) (by kernel_rfl) (fun _ _ _ h => h) (Or.inl ⟨by kernel_rfl, ?_⟩) hS ?_
                rotate_left
                · intro w' hSw
                  obtain ⟨g0, g1, g2, g3, g4, g5, g6, g7, _⟩ := hSw
                  first | (go_simp; done) | (go_simp; with_reducible rfl)
                simp only [List.getElem_toArray, List.getElem_cons_zero, List.getElem_cons_succ, Act.put, List.setIfInBounds_toArray, List.set_cons_zero, List.set_cons_succ]
                refine wpAnyH_ready (rs := [10]) (by kernel_rfl) (List.cons_ne_nil _ _) ?_
                refine AllReadyH.cons rfl (fun K hK => ?_) AllReadyH.nil
                go_simp
                refine gen_w (P := fun V => utsp.grownBy V none ∧ Bx V utsp.heap.size 39 (#[.int .i64 0, .slice none 0 0, .int .i64 0, .int .i64 0, .int .i64 0, .int .i64 0])) ⟨?_, ?_⟩ (fun utspa hp => ?_)
                skip
                · first | with_reducible exact World.grownBy_alloc _ _ _ | with_reducible exact gA grownBy_drew _ | with_reducible exact grownBy_trans (World.grownBy_alloc _ _ _) grownBy_drew
                · first | with_reducible exact Bx.new _ _ _ | with_reducible exact (Bx.new _ _ _).keep grownBy_drew | exact Bx.new _ _ _
                have hF : w15.grownBy utspa none := grownBy_trans (hS.2.2.2.2.2.2.2.2) hp.1
                have hxutspa := Lib.hid hp.2
                have hbA := Lib.hid (show w15.heap.size ≤ utsp.heap.size from (hS.2.2.2.2.2.2.2.2).size)
                have houtspa := Lib.hid (And.intro (own_kept houtsp.out.1 hp.1) houtsp.out.2)
                have hneA := Lib.hid (own_lt houtsp.out.1 (Nat.le_refl utsp.heap.size))
                clear hp
                refine hK.out _ _ (⟨(hF).cell p0 (by simp), (hF).cell p1 (by simp), (hF).cell p2 (by simp), (hF).cell p3 (by simp), (hF).cell p4 (by simp), (hF).cell p5 (by simp), (hF).cell p6 (by simp), (hF).cell p7 (by simp), hF⟩) (fun hS => ?_)
                clear hF
                clear hK
                try simp only [List.getElem_toArray, List.getElem_cons_zero, List.getElem_cons_succ, Act.put, List.setIfInBounds_toArray, List.set_cons_zero, List.set_cons_succ]
                refine wpAnyH_ready (rs := [11]) (by kernel_rfl) (List.cons_ne_nil _ _) ?_
                refine AllReadyH.cons rfl (fun K hK => ?_) AllReadyH.nil
                have z0 := hxutspa.out.c 0 rfl
                have z1 := hxutspa.out.c 1 rfl
                have z2 := hxutspa.out.c 2 rfl
                have z3 := hxutspa.out.c 3 rfl
                have z4 := hxutspa.out.c 4 rfl
                have z5 := hxutspa.out.c 5 rfl
                have f0 := hxutspa.out.f 0
                have f1 := hxutspa.out.f 1
                have f2 := hxutspa.out.f 2
                have f3 := hxutspa.out.f 3
                have f4 := hxutspa.out.f 4
                have f5 := hxutspa.out.f 5
                have lx := hxutspa.out.lt
                go_simp
                refine gen_w (P := fun V => Res w15 V _ a16 c16 P L R F S T) (res_new (hS.2.2.2.2.2.2.2.2) hxutspa.out hbA.out houtspa.out.1 houtspa.out.2 hneA.out) (fun uz hp => ?_)
                have hF := hp.g
                have hpp := Lib.hid hp
                clear hp z0 f0 z1 f1 z2 f2 z3 f3 z4 f4 z5 f5 lx
                refine hK.out _ _ (⟨(hF).cell p0 (by simp), (hF).cell p1 (by simp), (hF).cell p2 (by simp), (hF).cell p3 (by simp), (hF).cell p4 (by simp), (hF).cell p5 (by simp), (hF).cell p6 (by simp), (hF).cell p7 (by simp), hF⟩) (fun hS => ?_)
                clear hF
                clear hK
                try simp only [List.getElem_toArray, List.getElem_cons_zero, List.getElem_cons_succ, Act.put, List.setIfInBounds_toArray, List.set_cons_zero, List.set_cons_succ]
                refine wpAnyH_take (i := 12) (v := ?_) rfl (by kernel_rfl) (by kernel_rfl) (by kernel_rfl) (fun _ _ _ h => h) (Or.inl ⟨by kernel_rfl, ?_⟩) hS ?_
                rotate_left
                · intro w' hSw
                  obtain ⟨g0, g1, g2, g3, g4, g5, g6, g7, _⟩ := hSw
                  first | (go_simp; done) | (go_simp; with_reducible rfl)
                simp only [List.getElem_toArray, List.getElem_cons_zero, List.getElem_cons_succ, Act.put, List.setIfInBounds_toArray, List.set_cons_zero, List.set_cons_succ]
                refine wpAnyH_done (by kernel_rfl) ?_ _
                go_wp2_with fail
                go_meet
                exact ⟨_, _, _, rfl, rfl, hpp.out⟩
              refine AllReadyH.cons rfl (fun K hK => ?_) ?_
              · go_simp
                refine gen_w (P := fun V => uts.grownBy V none ∧ Bx V uts.heap.size 39 (#[.int .i64 0, .slice none 0 0, .int .i64 0, .int .i64 0, .int .i64 0, .int .i64 0])) ⟨?_, ?_⟩ (fun utsa hp => ?_)
                skip
                · first | with_reducible exact World.grownBy_alloc _ _ _ | with_reducible exact gA grownBy_drew _ | with_reducible exact grownBy_trans (World.grownBy_alloc _ _ _) grownBy_drew
                · first | with_reducible exact Bx.new _ _ _ | with_reducible exact (Bx.new _ _ _).keep grownBy_drew | exact Bx.new _ _ _
                have hF : w15.grownBy utsa none := grownBy_trans (hS.2.2.2.2.2.2.2.2) hp.1
                have hxutsa := Lib.hid hp.2
                have hbA := Lib.hid (show w15.heap.size ≤ uts.heap.size from (hS.2.2.2.2.2.2.2.2).size)
                have hrutsa := Lib.hid (hruts.out.kept hp.1)
                clear hp
                refine hK.out _ _ (⟨(hF).cell p0 (by simp), (hF).cell p1 (by simp), (hF).cell p2 (by simp), (hF).cell p3 (by simp), (hF).cell p4 (by simp), (hF).cell p5 (by simp), (hF).cell p6 (by simp), (hF).cell p7 (by simp), hF⟩) (fun hS => ?_)
                clear hF
                clear hK
                try simp only [List.getElem_toArray, List.getElem_cons_zero, List.getElem_cons_succ, Act.put, List.setIfInBounds_toArray, List.set_cons_zero, List.set_cons_succ]
                refine wpAnyH_ready (rs := [6]) (by kernel_rfl) (List.cons_ne_nil _ _) ?_
                refine AllReadyH.cons rfl (fun K hK => ?_) AllReadyH.nil
                go_simp
                go_at_call 37
                refine (HSI.out _ _ _ (hrutsa.out)).mono ?_
                rintro e utspa ⟨a16, c16, rfl, hg, ho⟩
                have houtspa := Lib.hid (And.intro ho (show w15.heap.size ≤ utsa.heap.size from (hS.2.2.2.2.2.2.2.2).size))
                have hneA := Lib.hid (own_ge ho hxutsa.out.lt)
                clear ho
                have hF := grownBy_trans (hS.2.2.2.2.2.2.2.2) hg
                have hxutspa := Lib.hid (hxutsa.out.keep hg)
                clear hg
                refine hK.out _ _ (⟨(hF).cell p0 (by simp), (hF).cell p1 (by simp), (hF).cell p2 (by simp), (hF).cell p3 (by simp), (hF).cell p4 (by simp), (hF).cell p5 (by simp), (hF).cell p6 (by simp), (hF).cell p7 (by simp), hF⟩) (fun hS => ?_)
                clear hF
                clear hK
                try simp only [List.getElem_toArray, List.getElem_cons_zero, List.getElem_cons_succ, Act.put, List.setIfInBounds_toArray, List.set_cons_zero, List.set_cons_succ]
                refine wpAnyH_take (i := 7) (v := ?_) rfl (by kernel_rfl) (by kernel_rfl) (by kernel_rfl) (fun _ _ _ h => h) (Or.inl ⟨by kernel_rfl, ?_⟩) hS ?_
                rotate_left
                · intro w' hSw
                  obtain ⟨g0, g1, g2, g3, g4, g5, g6, g7, _⟩ := hSw
                  first | (go_simp; done) | (go_simp; with_reducible rfl)
                simp only [List.getElem_toArray, List.getElem_cons_zero, List.getElem_cons_succ, Act.put, List.setIfInBounds_toArray, List.set_cons_zero, List.set_cons_succ]
                refine wpAnyH_take (i := 8) (v := ?_) rfl (by kernel_rfl) (by kernel_rfl) (by kernel_rfl) (fun _ _ _ h => h) (Or.inl ⟨by kernel_rfl, ?_⟩) hS ?_
                rotate_left
                · intro w' hSw
                  obtain ⟨g0, g1, g2, g3, g4, g5, g6, g7, _⟩ := hSw
                  first | (go_simp; done) | (go_simp; with_reducible rfl)
                simp only [List.getElem_toArray, List.getElem_cons_zero, List.getElem_cons_succ, Act.put, List.setIfInBounds_toArray, List.set_cons_zero, List.set_cons_succ]
                refine wpAnyH_take (i := 9) (v := ?_) rfl (by kernel_rfl) (by kernel_rfl) (by kernel_rfl) (fun _ _ _ h => h) (Or.inl ⟨by kernel_rfl, ?_⟩) hS ?_
                rotate_left
                · intro w' hSw
                  obtain ⟨g0, g1, g2, g3, g4, g5, g6, g7, _⟩ := hSw
                  first | (go_simp; done) | (go_simp; with_reducible rfl)
                simp only [List.getElem_toArray, List.getElem_cons_zero, List.getElem_cons_succ, Act.put, List.setIfInBounds_toArray, List.set_cons_zero, List.set_cons_succ]
                refine wpAnyH_ready (rs := [11]) (by kernel_rfl) (List.cons_ne_nil _ _) ?_
                refine AllReadyH.cons rfl (fun K hK => ?_) AllReadyH.nil
                have z0 := hxutspa.out.c 0 rfl
                have z1 := hxutspa.out.c 1 rfl
                have z2 := hxutspa.out.c 2 rfl
                have z3 := hxutspa.out.c 3 rfl
                have z4 := hxutspa.out.c 4 rfl
                have z5 := hxutspa.out.c 5 rfl
                have f0 := hxutspa.out.f 0
                have f1 := hxutspa.out.f 1
                have f2 := hxutspa.out.f 2
                have f3 := hxutspa.out.f 3
                have f4 := hxutspa.out.f 4
                have f5 := hxutspa.out.f 5
                have lx := hxutspa.out.lt
                go_simp
                refine gen_w (P := fun V => Res w15 V _ a16 c16 P L R F S T) (res_new (hS.2.2.2.2.2.2.2.2) hxutspa.out hbA.out houtspa.out.1 houtspa.out.2 hneA.out) (fun uz hp => ?_)
                have hF := hp.g
                have hpp := Lib.hid hp
                clear hp z0 f0 z1 f1 z2 f2 z3 f3 z4 f4 z5 f5 lx
                refine hK.out _ _ (⟨(hF).cell p0 (by simp), (hF).cell p1 (by simp), (hF).cell p2 (by simp), (hF).cell p3 (by simp), (hF).cell p4 (by simp), (hF).cell p5 (by simp), (hF).cell p6 (by simp), (hF).cell p7 (by simp), hF⟩) (fun hS => ?_)
                clear hF
                clear hK
                try simp only [List.getElem_toArray, List.getElem_cons_zero, List.getElem_cons_succ, Act.put, List.setIfInBounds_toArray, List.set_cons_zero, List.set_cons_succ]
                refine wpAnyH_take (i := 12) (v := ?_) rfl (by kernel_rfl) (by kernel_rfl) (by kernel_rfl) (fun _ _ _ h => h) (Or.inl ⟨by kernel_rfl, ?_⟩) hS ?_
                rotate_left
                · intro w' hSw
                  obtain ⟨g0, g1, g2, g3, g4, g5, g6, g7, _⟩ := hSw
                  first | (go_simp; done) | (go_simp; with_reducible rfl)
                simp only [List.getElem_toArray, List.getElem_cons_zero, List.getElem_cons_succ, Act.put, List.setIfInBounds_toArray, List.set_cons_zero, List.set_cons_succ]
                refine wpAnyH_done (by kernel_rfl) ?_ _
                go_wp2_with fail
                go_meet
                exact ⟨_, _, _, rfl, rfl, hpp.out⟩
              exact AllReadyH.nil
            refine AllReadyH.cons rfl (fun K hK => ?_) ?_
            · go_simp
              refine gen_w (P := fun V => ut.grownBy V none ∧ Bx V ut.heap.size 39 (#[.int .i64 0, .slice none 0 0, .int .i64 0, .int .i64 0, .int .i64 0, .int .i64 0])) ⟨?_, ?_⟩ (fun uta hp => ?_)
              skip
              · first | with_reducible exact World.grownBy_alloc _ _ _ | with_reducible exact gA grownBy_drew _ | with_reducible exact grownBy_trans (World.grownBy_alloc _ _ _) grownBy_drew
              · first | with_reducible exact Bx.new _ _ _ | with_reducible exact (Bx.new _ _ _).keep grownBy_drew | exact Bx.new _ _ _
              have hF : w15.grownBy uta none := grownBy_trans (hS.2.2.2.2.2.2.2.2) hp.1
              have hxuta := Lib.hid hp.2
              have hbA := Lib.hid (show w15.heap.size ≤ ut.heap.size from (hS.2.2.2.2.2.2.2.2).size)
              have hruta := Lib.hid (hrut.out.kept hp.1)
              clear hp
              refine hK.out _ _ (⟨(hF).cell p0 (by simp), (hF).cell p1 (by simp), (hF).cell p2 (by simp), (hF).cell p3 (by simp), (hF).cell p4 (by simp), (hF).cell p5 (by simp), (hF).cell p6 (by simp), (hF).cell p7 (by simp), hF⟩) (fun hS => ?_)
              clear hF
              clear hK
              try simp only [List.getElem_toArray, List.getElem_cons_zero, List.getElem_cons_succ, Act.put, List.setIfInBounds_toArray, List.set_cons_zero, List.set_cons_succ]
              refine wpAnyH_ready (rs := [3]) (by kernel_rfl) (List.cons_ne_nil _ _) ?_
              refine AllReadyH.cons rfl (fun K hK => ?_) AllReadyH.nil
              go_simp
              go_at_call 21
              refine (to_range _ _ _).mono ?_
              rintro e utsa ⟨rfl, hg⟩
              have hrutsa := Lib.hid ((hruta.out).kept hg)
              have hF := grownBy_trans (hS.2.2.2.2.2.2.2.2) hg
              have hxutsa := Lib.hid (hxuta.out.keep hg)
              clear hg
              refine hK.out _ _ (⟨(hF).cell p0 (by simp), (hF).cell p1 (by simp), (hF).cell p2 (by simp), (hF).cell p3 (by simp), (hF).cell p4 (by simp), (hF).cell p5 (by simp), (hF).cell p6 (by simp), (hF).cell p7 (by simp), hF⟩) (fun hS => ?_)
              clear hF
              clear hK
              try simp only [List.getElem_toArray, List.getElem_cons_zero, List.getElem_cons_succ, Act.put, List.setIfInBounds_toArray, List.set_cons_zero, List.set_cons_succ]
              refine wpAnyH_ready (rs := [6]) (by kernel_rfl) (List.cons_ne_nil _ _) ?_
              refine AllReadyH.cons rfl (fun K hK => ?_) AllReadyH.nil
              go_simp
              go_at_call 37
              refine (HSI.out _ _ _ (hrutsa.out)).mono ?_
              rintro e utspa ⟨a16, c16, rfl, hg, ho⟩
              have houtspa := Lib.hid (And.intro ho (show w15.heap.size ≤ utsa.heap.size from (hS.2.2.2.2.2.2.2.2).size))
              have hneA := Lib.hid (own_ge ho hxutsa.out.lt)
              clear ho
              have hF := grownBy_trans (hS.2.2.2.2.2.2.2.2) hg
              have hxutspa := Lib.hid (hxutsa.out.keep hg)
              clear hg
              refine hK.out _ _ (⟨(hF).cell p0 (by simp), (hF).cell p1 (by simp), (hF).cell p2 (by simp), (hF).cell p3 (by simp), (hF).cell p4 (by simp), (hF).cell p5 (by simp), (hF).cell p6 (by simp), (hF).cell p7 (by simp), hF⟩) (fun hS => ?_)
              clear hF
              clear hK
              try simp only [List.getElem_toArray, List.getElem_cons_zero, List.getElem_cons_succ, Act.put, List.setIfInBounds_toArray, List.set_cons_zero, List.set_cons_succ]
              refine wpAnyH_take (i := 7) (v := ?_) rfl (by kernel_rfl) (by kernel_rfl) (by kernel_rfl) (fun _ _ _ h => h) (Or.inl ⟨by kernel_rfl, ?_⟩) hS ?_
              rotate_left
              · intro w' hSw
                obtain ⟨g0, g1, g2, g3, g4, g5, g6, g7, _⟩ := hSw
                first | (go_simp; done) | (go_simp; with_reducible rfl)
              simp only [List.getElem_toArray, List.getElem_cons_zero, List.getElem_cons_succ, Act.put, List.setIfInBounds_toArray, List.set_cons_zero, List.set_cons_succ]
              refine wpAnyH_take (i := 8) (v := ?_) rfl (by kernel_rfl) (by kernel_rfl) (by kernel_rfl) (fun _ _ _ h => h) (Or.inl ⟨by kernel_rfl, ?_⟩) hS ?_
              rotate_left
              · intro w' hSw
                obtain ⟨g0, g1, g2, g3, g4, g5, g6, g7, _⟩ := hSw
                first | (go_simp; done) | (go_simp; with_reducible rfl)
              simp only [List.getElem_toArray, List.getElem_cons_zero, List.getElem_cons_succ, Act.put, List.setIfInBounds_toArray, List.set_cons_zero, List.set_cons_succ]
              refine wpAnyH_take (i := 9) (v := ?_) rfl (by kernel_rfl) (by kernel_rfl) (by kernel_rfl) (fun _ _ _ h => h) (Or.inl ⟨by kernel_rfl, ?_⟩) hS ?_
              rotate_left
              · intro w' hSw
                obtain ⟨g0, g1, g2, g3, g4, g5, g6, g7, _⟩ := hSw
                first | (go_simp; done) | (go_simp; with_reducible rfl)
              simp only [List.getElem_toArray, List.getElem_cons_zero, List.getElem_cons_succ, Act.put, List.setIfInBounds_toArray, List.set_cons_zero, List.set_cons_succ]
              refine wpAnyH_ready (rs := [11]) (by kernel_rfl) (List.cons_ne_nil _ _) ?_
              refine AllReadyH.cons rfl (fun K hK => ?_) AllReadyH.nil
              have z0 := hxutspa.out.c 0 rfl
              have z1 := hxutspa.out.c 1 rfl
              have z2 := hxutspa.out.c 2 rfl
              have z3 := hxutspa.out.c 3 rfl
              have z4 := hxutspa.out.c 4 rfl
              have z5 := hxutspa.out.c 5 rfl
              have f0 := hxutspa.out.f 0
              have f1 := hxutspa.out.f 1
              have f2 := hxutspa.out.f 2
              have f3 := hxutspa.out.f 3
              have f4 := hxutspa.out.f 4
              have f5 := hxutspa.out.f 5
              have lx := hxutspa.out.lt
              go_simp
              refine gen_w (P := fun V => Res w15 V _ a16 c16 P L R F S T) (res_new (hS.2.2.2.2.2.2.2.2) hxutspa.out hbA.out houtspa.out.1 houtspa.out.2 hneA.out) (fun uz hp => ?_)
              have hF := hp.g
              have hpp := Lib.hid hp
              clear hp z0 f0 z1 f1 z2 f2 z3 f3 z4 f4 z5 f5 lx
              refine hK.out _ _ (⟨(hF).cell p0 (by simp), (hF).cell p1 (by simp), (hF).cell p2 (by simp), (hF).cell p3 (by simp), (hF).cell p4 (by simp), (hF).cell p5 (by simp), (hF).cell p6 (by simp), (hF).cell p7 (by simp), hF⟩) (fun hS => ?_)
              clear hF
              clear hK
              try simp only [List.getElem_toArray, List.getElem_cons_zero, List.getElem_cons_succ, Act.put, List.setIfInBounds_toArray, List.set_cons_zero, List.set_cons_succ]
              refine wpAnyH_take (i := 12) (v := ?_) rfl (by kernel_rfl) (by kernel_rfl) (by kernel_rfl) (fun _ _ _ h => h) (Or.inl ⟨by kernel_rfl, ?_⟩) hS ?_
              rotate_left
              · intro w' hSw
                obtain ⟨g0, g1, g2, g3, g4, g5, g6, g7, _⟩ := hSw
                first | (go_simp; done) | (go_simp; with_reducible rfl)
              simp only [List.getElem_toArray, List.getElem_cons_zero, List.getElem_cons_succ, Act.put, List.setIfInBounds_toArray, List.set_cons_zero, List.set_cons_succ]
              refine wpAnyH_done (by kernel_rfl) ?_ _
              go_wp2_with fail
              go_meet
              exact ⟨_, _, _, rfl, rfl, hpp.out⟩
            exact AllReadyH.nil
          refine AllReadyH.cons rfl (fun K hK => ?_) ?_
          · go_simp
            refine gen_w (P := fun V => w15.grownBy V none ∧ Bx V w15.heap.size 39 (#[.int .i64 0, .slice none 0 0, .int .i64 0, .int .i64 0, .int .i64 0, .int .i64 0])) ⟨?_, ?_⟩ (fun ua hp => ?_)
            skip
            · first | with_reducible exact World.grownBy_alloc _ _ _ | with_reducible exact gA grownBy_drew _ | with_reducible exact grownBy_trans (World.grownBy_alloc _ _ _) grownBy_drew
            · first | with_reducible exact Bx.new _ _ _ | with_reducible exact (Bx.new _ _ _).keep grownBy_drew | exact Bx.new _ _ _
            have hF : w15.grownBy ua none := hp.1
            have hxua := Lib.hid hp.2
            have hbA := Lib.hid (show w15.heap.size ≤ w15.heap.size from Nat.le_refl _)
            clear hp
            refine hK.out _ _ (⟨(hF).cell p0 (by simp), (hF).cell p1 (by simp), (hF).cell p2 (by simp), (hF).cell p3 (by simp), (hF).cell p4 (by simp), (hF).cell p5 (by simp), (hF).cell p6 (by simp), (hF).cell p7 (by simp), hF⟩) (fun hS => ?_)
            clear hF
            clear hK
            try simp only [List.getElem_toArray, List.getElem_cons_zero, List.getElem_cons_succ, Act.put, List.setIfInBounds_toArray, List.set_cons_zero, List.set_cons_succ]
            refine wpAnyH_ready (rs := [1]) (by kernel_rfl) (List.cons_ne_nil _ _) ?_
            refine AllReadyH.cons rfl (fun K hK => ?_) AllReadyH.nil
            go_simp
            go_at_call 34
            refine (to_bbr _ _ _ _ _ _ _ _ _ (A15.out.2.kept (hS.2.2.2.2.2.2.2.2)) hl).mono ?_
            rintro e uta ⟨q16, rfl, hg, ho⟩
            have hruta := Lib.hid (rg_own ho)
            clear ho
            have hF := grownBy_trans (hS.2.2.2.2.2.2.2.2) hg
            have hxuta := Lib.hid (hxua.out.keep hg)
            clear hg
            refine hK.out _ _ (⟨(hF).cell p0 (by simp), (hF).cell p1 (by simp), (hF).cell p2 (by simp), (hF).cell p3 (by simp), (hF).cell p4 (by simp), (hF).cell p5 (by simp), (hF).cell p6 (by simp), (hF).cell p7 (by simp), hF⟩) (fun hS => ?_)
            clear hF
            clear hK
            try simp only [List.getElem_toArray, List.getElem_cons_zero, List.getElem_cons_succ, Act.put, List.setIfInBounds_toArray, List.set_cons_zero, List.set_cons_succ]
            refine wpAnyH_ready (rs := [3]) (by kernel_rfl) (List.cons_ne_nil _ _) ?_
            refine AllReadyH.cons rfl (fun K hK => ?_) AllReadyH.nil
            go_simp
            go_at_call 21
            refine (to_range _ _ _).mono ?_
            rintro e utsa ⟨rfl, hg⟩
            have hrutsa := Lib.hid ((hruta.out).kept hg)
            have hF := grownBy_trans (hS.2.2.2.2.2.2.2.2) hg
            have hxutsa := Lib.hid (hxuta.out.keep hg)
            clear hg
            refine hK.out _ _ (⟨(hF).cell p0 (by simp), (hF).cell p1 (by simp), (hF).cell p2 (by simp), (hF).cell p3 (by simp), (hF).cell p4 (by simp), (hF).cell p5 (by simp), (hF).cell p6 (by simp), (hF).cell p7 (by simp), hF⟩) (fun hS => ?_)
            clear hF
            clear hK
            try simp only [List.getElem_toArray, List.getElem_cons_zero, List.getElem_cons_succ, Act.put, List.setIfInBounds_toArray, List.set_cons_zero, List.set_cons_succ]
            refine wpAnyH_ready (rs := [6]) (by kernel_rfl) (List.cons_ne_nil _ _) ?_
            refine AllReadyH.cons rfl (fun K hK => ?_) AllReadyH.nil
            go_simp
            go_at_call 37
            refine (HSI.out _ _ _ (hrutsa.out)).mono ?_
            rintro e utspa ⟨a16, c16, rfl, hg, ho⟩
            have houtspa := Lib.hid (And.intro ho (show w15.heap.size ≤ utsa.heap.size from (hS.2.2.2.2.2.2.2.2).size))
            have hneA := Lib.hid (own_ge ho hxutsa.out.lt)
            clear ho
            have hF := grownBy_trans (hS.2.2.2.2.2.2.2.2) hg
            have hxutspa := Lib.hid (hxutsa.out.keep hg)
            clear hg
            refine hK.out _ _ (⟨(hF).cell p0 (by simp), (hF).cell p1 (by simp), (hF).cell p2 (by simp), (hF).cell p3 (by simp), (hF).cell p4 (by simp), (hF).cell p5 (by simp), (hF).cell p6 (by simp), (hF).cell p7 (by simp), hF⟩) (fun hS => ?_)
            clear hF
            clear hK
            try simp only [List.getElem_toArray, List.getElem_cons_zero, List.getElem_cons_succ, Act.put, List.setIfInBounds_toArray, List.set_cons_zero, List.set_cons_succ]
            refine wpAnyH_take (i := 7) (v := ?_) rfl (by kernel_rfl) (by kernel_rfl) (by kernel_rfl) (fun _ _ _ h => h) (Or.inl ⟨by kernel_rfl, ?_⟩) hS ?_
            rotate_left
            · intro w' hSw
              obtain ⟨g0, g1, g2, g3, g4, g5, g6, g7, _⟩ := hSw
              first | (go_simp; done) | (go_simp; with_reducible rfl)
            simp only [List.getElem_toArray, List.getElem_cons_zero, List.getElem_cons_succ, Act.put, List.setIfInBounds_toArray, List.set_cons_zero, List.set_cons_succ]
            refine wpAnyH_take (i := 8) (v := ?_) rfl (by kernel_rfl) (by kernel_rfl) (by kernel_rfl) (fun _ _ _ h => h) (Or.inl ⟨by kernel_rfl, ?_⟩) hS ?_
            rotate_left
            · intro w' hSw
              obtain ⟨g0, g1, g2, g3, g4, g5, g6, g7, _⟩ := hSw
              first | (go_simp; done) | (go_simp; with_reducible rfl)
            simp only [List.getElem_toArray, List.getElem_cons_zero, List.getElem_cons_succ, Act.put, List.setIfInBounds_toArray, List.set_cons_zero, List.set_cons_succ]
            refine wpAnyH_take (i := 9) (v := ?_) rfl (by kernel_rfl) (by kernel_rfl) (by kernel_rfl) (fun _ _ _ h => h) (Or.inl ⟨by kernel_rfl, ?_⟩) hS ?_
            rotate_left
            · intro w' hSw
              obtain ⟨g0, g1, g2, g3, g4, g5, g6, g7, _⟩ := hSw
              first | (go_simp; done) | (go_simp; with_reducible rfl)
            simp only [List.getElem_toArray, List.getElem_cons_zero, List.getElem_cons_succ, Act.put, List.setIfInBounds_toArray, List.set_cons_zero, List.set_cons_succ]
            refine wpAnyH_ready (rs := [11]) (by kernel_rfl) (List.cons_ne_nil _ _) ?_
            refine AllReadyH.cons rfl (fun K hK => ?_) AllReadyH.nil
            have z0 := hxutspa.out.c 0 rfl
            have z1 := hxutspa.out.c 1 rfl
            have z2 := hxutspa.out.c 2 rfl
            have z3 := hxutspa.out.c 3 rfl
            have z4 := hxutspa.out.c 4 rfl
            have z5 := hxutspa.out.c 5 rfl
            have f0 := hxutspa.out.f 0
            have f1 := hxutspa.out.f 1
            have f2 := hxutspa.out.f 2
            have f3 := hxutspa.out.f 3
            have f4 := hxutspa.out.f 4
            have f5 := hxutspa.out.f 5
            have lx := hxutspa.out.lt
            go_simp
            refine gen_w (P := fun V => Res w15 V _ a16 c16 P L R F S T) (res_new (hS.2.2.2.2.2.2.2.2) hxutspa.out hbA.out houtspa.out.1 houtspa.out.2 hneA.out) (fun uz hp => ?_)
            have hF := hp.g
            have hpp := Lib.hid hp
            clear hp z0 f0 z1 f1 z2 f2 z3 f3 z4 f4 z5 f5 lx
            refine hK.out _ _ (⟨(hF).cell p0 (by simp), (hF).cell p1 (by simp), (hF).cell p2 (by simp), (hF).cell p3 (by simp), (hF).cell p4 (by simp), (hF).cell p5 (by simp), (hF).cell p6 (by simp), (hF).cell p7 (by simp), hF⟩) (fun hS => ?_)
            clear hF
            clear hK
            try simp only [List.getElem_toArray, List.getElem_cons_zero, List.getElem_cons_succ, Act.put, List.setIfInBounds_toArray, List.set_cons_zero, List.set_cons_succ]
            refine wpAnyH_take (i := 12) (v := ?_) rfl (by kernel_rfl) (by kernel_rfl) (by kernel_rfl) (fun _ _ _ h => h) (Or.inl ⟨by kernel_rfl, ?_⟩) hS ?_
            rotate_left
            · intro w' hSw
              obtain ⟨g0, g1, g2, g3, g4, g5, g6, g7, _⟩ := hSw
              first | (go_simp; done) | (go_simp; with_reducible rfl)
            simp only [List.getElem_toArray, List.getElem_cons_zero, List.getElem_cons_succ, Act.put, List.setIfInBounds_toArray, List.set_cons_zero, List.set_cons_succ]
            refine wpAnyH_done (by kernel_rfl) ?_ _
            go_wp2_with fail
            go_meet
            exact ⟨_, _, _, rfl, rfl, hpp.out⟩
          exact AllReadyH.nil
        case rest =>
          obtain ⟨BH, aH, cH, rfl, rfl, hres⟩ := hcut
          have S16 := Lib.hid (S15.out.keep hres.g)
          have G16 := Lib.hid (And.intro hres.b hres.o)
          clear hres S15
          generalize hwc : wc = w16 at *
          clear hwc
          have b0 := (S16.out.b).c 0 rfl
          have b1 := (S16.out.b).c 1 rfl
          have b2 := (S16.out.b).c 2 rfl
          have b3 := (S16.out.b).c 3 rfl
          have b4 := (S16.out.b).c 4 rfl
          have b5 := (S16.out.b).c 5 rfl
          have x0 := (G16.out.1).c 0 rfl
          have x1 := (G16.out.1).c 1 rfl
          have x2 := (G16.out.1).c 2 rfl
          have x3 := (G16.out.1).c 3 rfl
          have x4 := (G16.out.1).c 4 rfl
          have x5 := (G16.out.1).c 5 rfl
          go_wp2_with fail
          refine (eq_bbr P aH a5 cH c5 L R F S T _ (rg_own G16.out.2) (rg_own S16.out.r) (by omega)).mono ?_
          rintro e w17 ⟨rfl, hg⟩
          have S17 := Lib.hid (S16.out.keep hg)
          clear hg S16
          clear b0 b1 b2 b3 b4 b5
          clear x0 x1 x2 x3 x4 x5
          have x0 := (S17.out.bg).c 0 rfl
          have x1 := (S17.out.bg).c 1 rfl
          have x2 := (S17.out.bg).c 2 rfl
          have x3 := (S17.out.bg).c 3 rfl
          have x4 := (S17.out.bg).c 4 rfl
          have x5 := (S17.out.bg).c 5 rfl
          go_wp2_with fail
          refine (held_bbr P aG cG L.length R F S T _ (rg_mark S17.out.rg) (by omega)).mono ?_
          rintro e w18 ⟨rfl, hg⟩
          have S18 := Lib.hid (S17.out.keep hg)
          clear hg S17
          go_wp2_with fail
          go_ret
          exact ⟨rfl, below_new (grownBy_trans H1.out.1.g S18.out.g)⟩

set_option maxRecDepth 100000 in
theorem lifted (os : Os) (started : os.Started) (H : Type) (enc : TypeId × Value → H) :
    ReturnsInHanded {} Try.checked os 8 .any (Rows.fnExactBbrStepSpec.pre6 enc Try.prog Try.f8 Rows.fnExactBbrStepRow.domain false) (Rows.fnExactBbrStepSpec.post enc Try.prog Try.f8 false true false false) := by
  refine returnsInHanded_of_change (C := Try.checked) own started (by kernel_rfl) Try.func8
    (ChangeSpec.witness6 (enc := enc) (C := Try.checked) false ⟨#[], #[.agg #[.int .i64 0, .slice none 0 0, .int .i64 0, .int .i64 0, .int .i64 0, .int .i64 0], .agg #[.int .i64 0, .int .i64 0], .int .i64 0, .int .i64 0], []⟩ 8 (by kernel_rfl) (by kernel_rfl) (by kernel_rfl) (by kernel_rfl)) ?_
  intro W base args ds gs before hval0 hW hcnd _
  have hval : ∀ (j : Nat) t v, Try.f8.params[j]? = some t → args[j]? = some v → Value.okWide Try.prog W .any base t v := hval0
  have hW' := hW
  obtain ⟨p, q, hA0, hV, rfl, hfz, hnd⟩ := hW
  have hA : DataW.TrodAll enc Try.prog W 0 (fun _ => true) true Try.f8.params.toList args.toList ds p := hA0
  rw [Try.params8] at hA hval
  obtain ⟨v0, vs0, d0, ds0, p0, q0, hargs, rfl, rfl, h0, r0⟩ := trodAll_cons hA
  obtain ⟨v1, vs1, d1, ds1, p1, q1, rfl, rfl, rfl, h1, r1⟩ := trodAll_cons r0
  obtain ⟨v2, vs2, d2, ds2, p2, q2, rfl, rfl, rfl, h2, r2⟩ := trodAll_cons r1
  obtain ⟨v3, vs3, d3, ds3, p3, q3, rfl, rfl, rfl, h3, r3⟩ := trodAll_cons r2
  obtain ⟨rfl, rfl, rfl⟩ := trodAll_nil r3
  obtain rfl : args = #[v0, v1, v2, v3] := by cases args; simp_all
  obtain ⟨rfl, rfl⟩ := trodVars_none hV
  have k0 := h0
  have lt0 : ∀ x ∈ p0, x.block < W.heap.size := by obtain ⟨m, hm⟩ := k0; exact DataW.trod_lt m _ _ _ hm
  obtain ⟨c0_0, c0_1, c0_2, c0_3, c0_4, c0_5, y0_0, y0_1, y0_2, y0_3, y0_4, y0_5, m0, rfl, rfl, rfl, hy0_0, hy0_1, hy0_2, hy0_3, hy0_4, hy0_5⟩ := open_agg6 Try.underlying46 (by kernel_rfl) cells46 (hval 0 46 v0 rfl rfl) h0
  obtain ⟨a0_0, e0_0, rfl, w0_0⟩ := DataW.trod_int Try.underlying2 hy0_0
  simp only [List.cons.injEq, and_true] at e0_0
  subst e0_0
  obtain ⟨a0_1, len0_1, cap0_1, e0_1⟩ := slice_form Try.underlying22 hy0_1
  simp only [List.cons.injEq, and_true] at e0_1
  subst e0_1
  obtain ⟨l0_1, e0_1, w0_1, n0_1⟩ : ∃ l : List Rg, l.length = len0_1 ∧ RgAt W a0_1 l ∧ l.length ≤ maxLen := by
    rcases Deep.open_slice_pairs Try.underlying22 Try.underlying30 cells30 rfl rfl (by kernel_rfl) (by kernel_rfl) hy0_1 with ⟨hcs, _⟩ | ⟨x, l, c, m, n, V0, V1, D0, D1, P0, P1, hcs, _, hl, hm, hmm, _, hall⟩
    · simp at hcs
      obtain ⟨rfl, rfl, rfl⟩ := hcs
      exact ⟨[], rfl, .inl rfl, Nat.zero_le _⟩
    · simp at hcs
      obtain ⟨rfl, rfl, rfl⟩ := hcs
      have hmc : m = cap0_1 := by simpa using hmm
      obtain ⟨ps, hlen, hps⟩ := list_of (P := fun i (p : Rg) => W.cell? (x.add (i * 2)) = some (.int .i64 p.1) ∧ W.cell? (x.add (i * 2 + 1)) = some (.int .i64 p.2)) len0_1 (fun i hi => by
        obtain ⟨c0, c1, t0, t1⟩ := hall i (by omega)
        obtain ⟨u, e0, _, wu⟩ := DataW.trod_int Try.underlying2 t0
        obtain ⟨s, e1, _, ws⟩ := DataW.trod_int Try.underlying2 t1
        simp only [List.cons.injEq, and_true] at e0 e1
        rw [e0] at c0
        rw [e1] at c1
        exact ⟨(u, s), c0, c1⟩)
      exact ⟨ps, hlen, rgAt_of fun i hi => ⟨(hps i hi).1, (hps i hi).2⟩, by omega⟩
  subst e0_1
  obtain ⟨a0_2, e0_2, rfl, w0_2⟩ := DataW.trod_int Try.underlying2 hy0_2
  simp only [List.cons.injEq, and_true] at e0_2
  subst e0_2
  obtain ⟨a0_3, e0_3, rfl, w0_3⟩ := DataW.trod_int Try.underlying2 hy0_3
  simp only [List.cons.injEq, and_true] at e0_3
  subst e0_3
  obtain ⟨a0_4, e0_4, rfl, w0_4⟩ := DataW.trod_int Try.underlying2 hy0_4
  simp only [List.cons.injEq, and_true] at e0_4
  subst e0_4
  obtain ⟨a0_5, e0_5, rfl, w0_5⟩ := DataW.trod_int Try.underlying2 hy0_5
  simp only [List.cons.injEq, and_true] at e0_5
  subst e0_5
  have k1 := h1
  have lt1 : ∀ x ∈ p1, x.block < W.heap.size := by obtain ⟨m, hm⟩ := k1; exact DataW.trod_lt m _ _ _ hm
  obtain ⟨c1_0, c1_1, y1_0, y1_1, m1, rfl, rfl, rfl, hy1_0, hy1_1⟩ := open_agg2 Try.underlying30 (by kernel_rfl) cells30 (hval 1 30 v1 rfl rfl) h1
  obtain ⟨a1_0, e1_0, rfl, w1_0⟩ := DataW.trod_int Try.underlying2 hy1_0
  simp only [List.cons.injEq, and_true] at e1_0
  subst e1_0
  obtain ⟨a1_1, e1_1, rfl, w1_1⟩ := DataW.trod_int Try.underlying2 hy1_1
  simp only [List.cons.injEq, and_true] at e1_1
  subst e1_1
  have k2 := h2
  have lt2 : ∀ x ∈ p2, x.block < W.heap.size := by obtain ⟨m, hm⟩ := k2; exact DataW.trod_lt m _ _ _ hm
  obtain ⟨a2, rfl, rfl, rfl, w2⟩ := open_int Try.underlying2 (hval 2 2 v2 rfl rfl) h2
  have k3 := h3
  have lt3 : ∀ x ∈ p3, x.block < W.heap.size := by obtain ⟨m, hm⟩ := k3; exact DataW.trod_lt m _ _ _ hm
  obtain ⟨a3, rfl, rfl, rfl, w3⟩ := open_int Try.underlying2 (hval 3 2 v3 rfl rfl) h3
  clear hA0 hval0
  refine (walk a0_0 a0_1 cap0_1 l0_1 a0_2 a0_3 a0_4 a0_5 a1_0 a1_1 a2 a3 W w0_0 w0_1 n0_1 w0_2 w0_3 w0_4 w0_5 w1_0 w1_1 w2 w3).mono fun e W' ⟨he, bel⟩ => ?_
  subst he
  exact ⟨_, rfl, _, _, _, [], _, [], hW', trodAll_mk1 (shut_bool Try.underlying4 _), (trodAll_cons_mk (Below.trod laidOut (by kernel_rfl) (of_decide_eq_true (by kernel_rfl)) k0 bel lt0) (trodAll_cons_mk (Below.trod laidOut (by kernel_rfl) (of_decide_eq_true (by kernel_rfl)) k1 bel lt1) (trodAll_cons_mk (Below.trod laidOut (by kernel_rfl) (of_decide_eq_true (by kernel_rfl)) k2 bel lt2) (trodAll_cons_mk (Below.trod laidOut (by kernel_rfl) (of_decide_eq_true (by kernel_rfl)) k3 bel lt3) trodAll_mk0)))), rfl, bel.frame _, fun h => by cases h⟩

theorem over : Rows.fnExactBbrStepRow.holds Try.pinned (OpenSpec.ofChange Rows.fnExactBbrStepSpec) :=
  OpenClaim.holds_of_wide 8 Try.f8 rfl rfl rfl rfl rfl rfl rfl ⟨rfl, rfl, rfl, rfl, rfl⟩ rfl rfl rfl rfl rfl (by kernel_rfl) Try.func8 (by kernel_rfl)
    (of_decide_eq_true (by kernel_rfl)) (by unfold Func.isWrapper; first | (rw [if_pos (by decide +kernel)]; kernel_rfl) | (rw [if_neg (by decide +kernel)]; exact ⟨rfl, rfl⟩))
    (fun os started H enc _ => lifted os started H enc)

theorem proved : Rows.FnExactBbrStepSaid := over
end Go.Proofs.Ytgaipihoonkdoaa.fnExactBbrStep
