/- For every state of a pipe the law FnExactBbrOk answers true and leaves its argument as it was; no condition. -/
import Derived.Test.YtgaipihoonkdoaaRows
import Derived.Test.YtgaipihoonkdoaaDraw
import Derived.Test.YtgaipihoonkdoaaBbL
import Derived.Test.YtgaipihoonkdoaaAgg
import Derived.WalkKit
import Derived.ProofKit
import Derived.OpenShut
import Derived.ShutString
import Derived.ChangeOld
import Derived.Below
import Derived.Lib.SmallJoins
import Derived.Deep.SlicePairs
namespace Go.Proofs.Ytgaipihoonkdoaa.fnExactBbrOk
open Go.ChangeShapes Go.WideShapes Go.ChangeAt Go.RowKit Go.Joins
open Go.ChangeMaps (open_string shut_string)
set_option linter.unusedVariables false

theorem own : ownKnob Try.prog.godebug = none := by kernel_rfl
theorem laidOut : laidOutB Try.prog = true := by kernel_rfl
theorem cells46 : Try.prog.cellsOf 46 = 6 := by kernel_rfl
theorem cells30 : Try.prog.cellsOf 30 = 2 := by kernel_rfl

theorem dummy : True := trivial

set_option maxRecDepth 100000 in
set_option maxHeartbeats 2000000 in
theorem walk (a0_0 : Int) (a0_1 : Option Addr) (cap0_1 : Nat) (l0_1 : List Rg) (a0_2 : Int) (a0_3 : Int) (a0_4 : Int) (a0_5 : Int) (w : World) (w0_0 : (Lit.int .i64 a0_0).wf = true) (w0_1 : RgAt w a0_1 l0_1) (n0_1 : l0_1.length ≤ maxLen) (w0_2 : (Lit.int .i64 a0_2).wf = true) (w0_3 : (Lit.int .i64 a0_3).wf = true) (w0_4 : (Lit.int .i64 a0_4).wf = true) (w0_5 : (Lit.int .i64 a0_5).wf = true) :
    Calls Try.prog 7 #[.agg #[.int .i64 a0_0, .slice a0_1 l0_1.length cap0_1, .int .i64 a0_2, .int .i64 a0_3, .int .i64 a0_4, .int .i64 a0_5]] w fun e w' => e = .returned (.bool true) ∧ Below w.heap.size w w' := by
  unfold maxLen at n0_1
  have HB := Lib.hid (And.intro (Bx.new w 46 (bbC a0_0 a0_1 l0_1.length cap0_1 a0_2 a0_3 a0_4 a0_5)) (World.grownBy_alloc w (.cells (bbC a0_0 a0_1 l0_1.length cap0_1 a0_2 a0_3 a0_4 a0_5) 46) none))
  have HA := Lib.hid (w0_1.kept HB.out.2)
  clear w0_1 w0_0 w0_2 w0_3 w0_4 w0_5
  go_enter Try.func7, Try.ntmps7
  go_wp2_with fail
  generalize w.alloc (.cells (bbC a0_0 a0_1 l0_1.length cap0_1 a0_2 a0_3 a0_4 a0_5) 46) = wb at *
  refine (sz_bbr _ _ _ _ _ _ _ _ _ (by omega)).mono ?_
  rintro e w1 ⟨⟨q, rfl, hq⟩, hg⟩
  have H1 := Lib.hid (And.intro hg (HB.out.1.keep hg))
  clear hg
  by_cases hq0 : q < 0
  · go_wp2_with fail
    go_ret
    exact ⟨rfl, below_new (grownBy_trans HB.out.2 H1.out.1)⟩
  · have hl : l0_1.length ≤ 1048576 := hq (by omega)
    clear hq
    have b0 := (H1.out.2).c 0 rfl
    have b1 := (H1.out.2).c 1 rfl
    have b2 := (H1.out.2).c 2 rfl
    have b3 := (H1.out.2).c 3 rfl
    have b4 := (H1.out.2).c 4 rfl
    have b5 := (H1.out.2).c 5 rfl
    go_wp2_with fail
    refine (to_bbr _ _ _ _ _ _ _ _ _ (HA.out.kept H1.out.1) hl).mono ?_
    rintro e w2 ⟨q2, rfl, hg, ho⟩
    have H2 := Lib.hid (And.intro (grownBy_trans H1.out.1 hg) (rg_own ho))
    clear hg ho
    clear b0 b1 b2 b3 b4 b5
    go_wp2_with fail
    refine (bb_ok_spec _ _ _ _ _ _ _ _ _ H2.out.2 (by omega)).mono ?_
    rintro e w3 ⟨rfl, hg⟩
    have H3 := Lib.hid (And.intro (grownBy_trans H2.out.1 hg) (HB.out.1.keep (grownBy_trans H2.out.1 hg)))
    clear hg
    have b0 := (H3.out.2).c 0 rfl
    have b1 := (H3.out.2).c 1 rfl
    have b2 := (H3.out.2).c 2 rfl
    have b3 := (H3.out.2).c 3 rfl
    have b4 := (H3.out.2).c 4 rfl
    have b5 := (H3.out.2).c 5 rfl
    go_wp2_with fail
    refine (to_bbr _ _ _ _ _ _ _ _ _ (HA.out.kept H3.out.1) hl).mono ?_
    rintro e w4 ⟨q4, rfl, hg, ho⟩
    have hX := Bx.new w4 39 (bbC a0_0 (some ⟨q4, 0, none⟩) l0_1.length l0_1.length a0_2 a0_3 a0_4 a0_5)
    have gX := World.grownBy_alloc w4 (.cells (bbC a0_0 (some ⟨q4, 0, none⟩) l0_1.length l0_1.length a0_2 a0_3 a0_4 a0_5) 39) none
    have H4 := Lib.hid (And.intro (grownBy_trans (grownBy_trans H3.out.1 hg) gX) (And.intro hX ((rg_own ho).kept gX)))
    clear hg ho hX gX
    clear b0 b1 b2 b3 b4 b5
    go_wp2_with fail
    generalize w4.alloc (.cells (bbC a0_0 (some ⟨q4, 0, none⟩) l0_1.length l0_1.length a0_2 a0_3 a0_4 a0_5) 39) = w5 at *
    refine (bb_ok_impl _ _ _ _ _ _ _ _ _ H4.out.2.2 (by omega)).mono ?_
    rintro e w6 ⟨rfl, hg⟩
    have H6 := Lib.hid (And.intro (grownBy_trans H4.out.1 hg) (And.intro (HB.out.1.keep (grownBy_trans H4.out.1 hg)) (And.intro (H4.out.2.1.keep hg) (H4.out.2.2.kept hg))))
    clear hg
    generalize bbOk a0_0 l0_1 a0_2 a0_3 a0_4 a0_5 = B
    have b0 := (H6.out.2.1).c 0 rfl
    have b1 := (H6.out.2.1).c 1 rfl
    have b2 := (H6.out.2.1).c 2 rfl
    have b3 := (H6.out.2.1).c 3 rfl
    have b4 := (H6.out.2.1).c 4 rfl
    have b5 := (H6.out.2.1).c 5 rfl
    have x0 := (H6.out.2.2.1).c 0 rfl
    have x1 := (H6.out.2.2.1).c 1 rfl
    have x2 := (H6.out.2.2.1).c 2 rfl
    have x3 := (H6.out.2.2.1).c 3 rfl
    have x4 := (H6.out.2.2.1).c 4 rfl
    have x5 := (H6.out.2.2.1).c 5 rfl
    go_wp2_with fail
    refine wp_region_held_drew (S := fun w' => w'.cell? ⟨w.heap.size, 0, none⟩ = some (.int .i64 a0_0) ∧ w'.cell? ⟨w.heap.size, 1, none⟩ = some (.slice a0_1 l0_1.length cap0_1) ∧ w'.cell? ⟨w.heap.size, 2, none⟩ = some (.int .i64 a0_2) ∧ w'.cell? ⟨w.heap.size, 3, none⟩ = some (.int .i64 a0_3) ∧ w'.cell? ⟨w.heap.size, 4, none⟩ = some (.int .i64 a0_4) ∧ w'.cell? ⟨w.heap.size, 5, none⟩ = some (.int .i64 a0_5) ∧ w'.cell? ⟨w4.heap.size, 0, none⟩ = some (.int .i64 a0_0) ∧ w'.cell? ⟨w4.heap.size, 1, none⟩ = some (.slice (some ⟨q4, 0, none⟩) l0_1.length l0_1.length) ∧ w'.cell? ⟨w4.heap.size, 2, none⟩ = some (.int .i64 a0_2) ∧ w'.cell? ⟨w4.heap.size, 3, none⟩ = some (.int .i64 a0_3) ∧ w'.cell? ⟨w4.heap.size, 4, none⟩ = some (.int .i64 a0_4) ∧ w'.cell? ⟨w4.heap.size, 5, none⟩ = some (.int .i64 a0_5) ∧ w6.grownBy w' none) (by kernel_rfl) (⟨by first | assumption | (go_simp; done) | (simp [*]; done), by first | assumption | (go_simp; done) | (simp [*]; done), by first | assumption | (go_simp; done) | (simp [*]; done), by first | assumption | (go_simp; done) | (simp [*]; done), by first | assumption | (go_simp; done) | (simp [*]; done), by first | assumption | (go_simp; done) | (simp [*]; done), by first | assumption | (go_simp; done) | (simp [*]; done), by first | assumption | (go_simp; done) | (simp [*]; done), by first | assumption | (go_simp; done) | (simp [*]; done), by first | assumption | (go_simp; done) | (simp [*]; done), by first | assumption | (go_simp; done) | (simp [*]; done), by first | assumption | (go_simp; done) | (simp [*]; done), grownBy_trans (World.grownBy.refl _ _) grownBy_drew⟩) (fun hS => ?_)
    refine wpAnyH_take (i := 0) (v := ?_) rfl (by kernel_rfl) (by kernel_rfl) (by kernel_rfl) (fun _ _ _ h => h) (Or.inl ⟨by kernel_rfl, ?_⟩) hS ?_
    rotate_left
    · intro w' hSw
      obtain ⟨g0, g1, g2, g3, g4, g5, g6, g7, g8, g9, g10, g11, _⟩ := hSw
      first | (go_simp; done) | (go_simp; with_reducible rfl)
    simp only [List.getElem_toArray, List.getElem_cons_zero, Act.put, List.setIfInBounds_toArray, List.set_cons_zero, List.set_cons_succ]
    refine wpAnyH_take (i := 1) (v := ?_) rfl (by kernel_rfl) (by kernel_rfl) (by kernel_rfl) (fun _ _ _ h => h) (Or.inl ⟨by kernel_rfl, ?_⟩) hS ?_
    rotate_left
    · intro w' hSw
      obtain ⟨g0, g1, g2, g3, g4, g5, g6, g7, g8, g9, g10, g11, _⟩ := hSw
      first | (go_simp; done) | (go_simp; with_reducible rfl)
    simp only [List.getElem_toArray, List.getElem_cons_zero, List.getElem_cons_succ, Act.put, List.setIfInBounds_toArray, List.set_cons_zero, List.set_cons_succ]
    refine wpAnyH_ready (rs := [2]) (by kernel_rfl) (List.cons_ne_nil _ _) ?_
    refine AllReadyH.cons rfl (fun K hK => ?_) AllReadyH.nil
    go_simp
    go_at_call 34
    refine (to_bbr _ _ _ _ _ _ _ _ _ (HA.out.kept (grownBy_trans H6.out.1 (hS.2.2.2.2.2.2.2.2.2.2.2.2))) hl).mono ?_
    rintro e w7 ⟨q7, rfl, hg, ho⟩
    have H7 := Lib.hid (And.intro (rg_own ho) (H6.out.2.2.2.kept (grownBy_trans (hS.2.2.2.2.2.2.2.2.2.2.2.2) hg)))
    refine hK.out _ _ (⟨hg.cell (hS.1) (by simp), hg.cell (hS.2.1) (by simp), hg.cell (hS.2.2.1) (by simp), hg.cell (hS.2.2.2.1) (by simp), hg.cell (hS.2.2.2.2.1) (by simp), hg.cell (hS.2.2.2.2.2.1) (by simp), hg.cell (hS.2.2.2.2.2.2.1) (by simp), hg.cell (hS.2.2.2.2.2.2.2.1) (by simp), hg.cell (hS.2.2.2.2.2.2.2.2.1) (by simp), hg.cell (hS.2.2.2.2.2.2.2.2.2.1) (by simp), hg.cell (hS.2.2.2.2.2.2.2.2.2.2.1) (by simp), hg.cell (hS.2.2.2.2.2.2.2.2.2.2.2.1) (by simp), grownBy_trans (hS.2.2.2.2.2.2.2.2.2.2.2.2) hg⟩) (fun hS => ?_)
    clear hK
    try simp only [List.getElem_toArray, List.getElem_cons_zero, List.getElem_cons_succ, Act.put, List.setIfInBounds_toArray, List.set_cons_zero, List.set_cons_succ]
    refine wpAnyH_ready (rs := [3]) (by kernel_rfl) (List.cons_ne_nil _ _) ?_
    refine AllReadyH.cons rfl (fun K hK => ?_) AllReadyH.nil
    go_simp
    go_at_call 29
    refine (eq_bbr _ _ _ _ _ _ _ _ _ _ _ H7.out.2 H7.out.1 hl).mono ?_
    rintro e w8 ⟨rfl, hg⟩
    refine hK.out _ _ (⟨hg.cell (hS.1) (by simp), hg.cell (hS.2.1) (by simp), hg.cell (hS.2.2.1) (by simp), hg.cell (hS.2.2.2.1) (by simp), hg.cell (hS.2.2.2.2.1) (by simp), hg.cell (hS.2.2.2.2.2.1) (by simp), hg.cell (hS.2.2.2.2.2.2.1) (by simp), hg.cell (hS.2.2.2.2.2.2.2.1) (by simp), hg.cell (hS.2.2.2.2.2.2.2.2.1) (by simp), hg.cell (hS.2.2.2.2.2.2.2.2.2.1) (by simp), hg.cell (hS.2.2.2.2.2.2.2.2.2.2.1) (by simp), hg.cell (hS.2.2.2.2.2.2.2.2.2.2.2.1) (by simp), grownBy_trans (hS.2.2.2.2.2.2.2.2.2.2.2.2) hg⟩) (fun hS => ?_)
    clear hK
    try simp only [List.getElem_toArray, List.getElem_cons_zero, List.getElem_cons_succ, Act.put, List.setIfInBounds_toArray, List.set_cons_zero, List.set_cons_succ]
    refine wpAnyH_take (i := 4) (v := ?_) rfl (by kernel_rfl) (by kernel_rfl) (by kernel_rfl) (fun _ _ _ h => h) (Or.inl ⟨by kernel_rfl, ?_⟩) hS ?_
    rotate_left
    · intro w' hSw
      obtain ⟨g0, g1, g2, g3, g4, g5, g6, g7, g8, g9, g10, g11, _⟩ := hSw
      first | (go_simp; done) | (go_simp; with_reducible rfl)
    simp only [List.getElem_toArray, List.getElem_cons_zero, List.getElem_cons_succ, Act.put, List.setIfInBounds_toArray, List.set_cons_zero, List.set_cons_succ]
    refine wpAnyH_done (by kernel_rfl) ?_ _
    have hgw := hS.2.2.2.2.2.2.2.2.2.2.2.2
    go_wp2_with fail
    go_ret
    exact ⟨rfl, below_new (grownBy_trans HB.out.2 (grownBy_trans H6.out.1 hgw))⟩

set_option maxRecDepth 100000 in
theorem lifted (os : Os) (started : os.Started) (H : Type) (enc : TypeId × Value → H) :
    ReturnsInHanded {} Try.checked os 7 .any (Rows.fnExactBbrOkSpec.pre6 enc Try.prog Try.f7 Rows.fnExactBbrOkRow.domain false) (Rows.fnExactBbrOkSpec.post enc Try.prog Try.f7 false true false false) := by
  refine returnsInHanded_of_change (C := Try.checked) own started (by kernel_rfl) Try.func7
    (ChangeSpec.witness6 (enc := enc) (C := Try.checked) false ⟨#[], #[.agg #[.int .i64 0, .slice none 0 0, .int .i64 0, .int .i64 0, .int .i64 0, .int .i64 0]], []⟩ 8 (by kernel_rfl) (by kernel_rfl) (by kernel_rfl) (by kernel_rfl)) ?_
  intro W base args ds gs before hval0 hW hcnd _
  have hval : ∀ (j : Nat) t v, Try.f7.params[j]? = some t → args[j]? = some v → Value.okWide Try.prog W .any base t v := hval0
  have hW' := hW
  obtain ⟨p, q, hA0, hV, rfl, hfz, hnd⟩ := hW
  have hA : DataW.TrodAll enc Try.prog W 0 (fun _ => true) true Try.f7.params.toList args.toList ds p := hA0
  rw [Try.params7] at hA hval
  obtain ⟨v0, vs0, d0, ds0, p0, q0, hargs, rfl, rfl, h0, r0⟩ := trodAll_cons hA
  obtain ⟨rfl, rfl, rfl⟩ := trodAll_nil r0
  obtain rfl : args = #[v0] := by cases args; simp_all
  obtain ⟨rfl, rfl⟩ := trodVars_none hV
  have k0 := h0
  have lt0 : ∀ x ∈ p0, x.block < W.heap.size := by obtain ⟨m, hm⟩ := k0; exact DataW.trod_lt m _ _ _ hm
  obtain ⟨c0_0, c0_1, c0_2, c0_3, c0_4, c0_5, y0_0, y0_1, y0_2, y0_3, y0_4, y0_5, m0, rfl, rfl, rfl, hy0_0, hy0_1, hy0_2, hy0_3, hy0_4, hy0_5⟩ := open_agg6 Try.underlying46 (by kernel_rfl) cells46 (hval 0 46 v0 rfl rfl) h0
  obtain ⟨a0_0, e0_0, rfl, w0_0⟩ := DataW.trod_int Try.underlying2 hy0_0
  simp only [List.cons.injEq, and_true] at e0_0
  subst e0_0
  obtain ⟨a0_1, len0_1, cap0_1, e0_1⟩ := slice_form Try.underlying22 hy0_1
  simp only [List.cons.injEq, and_true] at e0_1
  subst e0_1
  obtain ⟨l0_1, e0_1, w0_1, n0_1⟩ : ∃ l : List Rg, l.length = len0_1 ∧ RgAt W a0_1 l ∧ l.length ≤ maxLen := by
    rcases Deep.open_slice_pairs Try.underlying22 Try.underlying30 cells30 rfl rfl (by kernel_rfl) (by kernel_rfl) hy0_1 with ⟨hcs, _⟩ | ⟨x, l, c, m, n, V0, V1, D0, D1, P0, P1, hcs, _, hl, hm, hmm, _, hall⟩
    · simp at hcs
      obtain ⟨rfl, rfl, rfl⟩ := hcs
      exact ⟨[], rfl, .inl rfl, Nat.zero_le _⟩
    · simp at hcs
      obtain ⟨rfl, rfl, rfl⟩ := hcs
      have hmc : m = cap0_1 := by simpa using hmm
      obtain ⟨ps, hlen, hps⟩ := list_of (P := fun i (p : Rg) => W.cell? (x.add (i * 2)) = some (.int .i64 p.1) ∧ W.cell? (x.add (i * 2 + 1)) = some (.int .i64 p.2)) len0_1 (fun i hi => by
        obtain ⟨c0, c1, t0, t1⟩ := hall i (by omega)
        obtain ⟨u, e0, _, wu⟩ := DataW.trod_int Try.underlying2 t0
        obtain ⟨s, e1, _, ws⟩ := DataW.trod_int Try.underlying2 t1
        simp only [List.cons.injEq, and_true] at e0 e1
        rw [e0] at c0
        rw [e1] at c1
        exact ⟨(u, s), c0, c1⟩)
      exact ⟨ps, hlen, rgAt_of fun i hi => ⟨(hps i hi).1, (hps i hi).2⟩, by omega⟩
  subst e0_1
  obtain ⟨a0_2, e0_2, rfl, w0_2⟩ := DataW.trod_int Try.underlying2 hy0_2
  simp only [List.cons.injEq, and_true] at e0_2
  subst e0_2
  obtain ⟨a0_3, e0_3, rfl, w0_3⟩ := DataW.trod_int Try.underlying2 hy0_3
  simp only [List.cons.injEq, and_true] at e0_3
  subst e0_3
  obtain ⟨a0_4, e0_4, rfl, w0_4⟩ := DataW.trod_int Try.underlying2 hy0_4
  simp only [List.cons.injEq, and_true] at e0_4
  subst e0_4
  obtain ⟨a0_5, e0_5, rfl, w0_5⟩ := DataW.trod_int Try.underlying2 hy0_5
  simp only [List.cons.injEq, and_true] at e0_5
  subst e0_5
  clear hA0 hval0
  refine (walk a0_0 a0_1 cap0_1 l0_1 a0_2 a0_3 a0_4 a0_5 W w0_0 w0_1 n0_1 w0_2 w0_3 w0_4 w0_5).mono fun e W' ⟨he, bel⟩ => ?_
  subst he
  exact ⟨_, rfl, _, _, _, [], _, [], hW', trodAll_mk1 (shut_bool Try.underlying4 _), (trodAll_cons_mk (Below.trod laidOut (by kernel_rfl) (of_decide_eq_true (by kernel_rfl)) k0 bel lt0) trodAll_mk0), rfl, bel.frame _, fun h => by cases h⟩

theorem over : Rows.fnExactBbrOkRow.holds Try.pinned (OpenSpec.ofChange Rows.fnExactBbrOkSpec) :=
  OpenClaim.holds_of_wide 7 Try.f7 rfl rfl rfl rfl rfl rfl rfl ⟨rfl, rfl, rfl, rfl, rfl⟩ rfl rfl rfl rfl rfl (by kernel_rfl) Try.func7 (by kernel_rfl)
    (of_decide_eq_true (by kernel_rfl)) (by unfold Func.isWrapper; first | (rw [if_pos (by decide +kernel)]; kernel_rfl) | (rw [if_neg (by decide +kernel)]; exact ⟨rfl, rfl⟩))
    (fun os started H enc _ => lifted os started H enc)

theorem proved : Rows.FnExactBbrOkSaid := over
end Go.Proofs.Ytgaipihoonkdoaa.fnExactBbrOk
