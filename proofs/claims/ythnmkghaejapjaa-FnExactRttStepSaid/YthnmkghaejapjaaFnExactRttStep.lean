/- RttStep is as the model's. -/
import Derived.Test.YthnmkghaejapjaaRows
import Derived.Test.YthnmkghaejapjaaRtX
import Derived.Test.YthnmkghaejapjaaDraw
import Derived.WalkKit
import Derived.ProofKit
import Derived.OpenShut
import Derived.ShutString
import Derived.ChangeOld
import Derived.Below
import Derived.Lib.SmallJoins
namespace Go.Proofs.Ythnmkghaejapjaa.fnExactRttStep
open Go.ChangeShapes Go.WideShapes Go.ChangeAt Go.RowKit Go.Joins
open Go.ChangeMaps (open_string shut_string)
set_option linter.unusedVariables false

theorem own : ownKnob Try.prog.godebug = none := by kernel_rfl
theorem laidOut : laidOutB Try.prog = true := by kernel_rfl
theorem cells36 : Try.prog.cellsOf 36 = 4 := by kernel_rfl

theorem to_law (h : Bool) (m v r : Int) (w : World) : Calls Try.prog 23 #[.agg #[.bool h, .int .i64 m, .int .i64 v, .int .i64 r]] w fun e w' => e = .returned (rtV4 h m v r) ∧ w.grownBy w' none := rt_to h m v r w
theorem eq_same (h : Bool) (m v r : Int) (w : World) : Calls Try.prog 22 #[.agg #[.bool h, .int .i64 m, .int .i64 v, .int .i64 r], .agg #[.bool h, .int .i64 m, .int .i64 v, .int .i64 r]] w fun e w' => e = .returned (.bool true) ∧ w.grownBy w' none := by
  refine (rt_eq h h m v r m v r w).mono ?_
  rintro e w1 ⟨rfl, hg⟩
  exact ⟨ret_b (decide_eq_true ⟨rfl, rfl, rfl, rfl⟩), hg⟩

set_option maxRecDepth 100000 in
set_option maxHeartbeats 1000000 in
theorem walk (a0_0 : Bool) (a0_1 : Int) (a0_2 : Int) (a0_3 : Int) (a1 : Int) (w : World) (w0_1 : (Lit.int .i64 a0_1).wf = true) (w0_2 : (Lit.int .i64 a0_2).wf = true) (w0_3 : (Lit.int .i64 a0_3).wf = true) (w1 : (Lit.int .i64 a1).wf = true) :
    Calls Try.prog 7 #[.agg #[.bool a0_0, .int .i64 a0_1, .int .i64 a0_2, .int .i64 a0_3], .int .i64 a1] w fun e w' => e = .returned (.bool true) ∧ Below w.heap.size w w' := by
  obtain ⟨h', m', v', r', hv⟩ := step_form a0_0 a0_1 a0_2 a0_3 a1
  go_enter Try.func7, Try.ntmps7
  go_wp2_with fail
  refine (to_law a0_0 a0_1 a0_2 a0_3 _).mono ?_
  rintro e w2 ⟨rfl, hg⟩
  have hc0 := hg.cell (a := ⟨w.heap.size, 0, none⟩) (v := .bool a0_0) (by go_simp) (by simp)
  have hc1 := hg.cell (a := ⟨w.heap.size, 1, none⟩) (v := .int .i64 a0_1) (by go_simp) (by simp)
  have hc2 := hg.cell (a := ⟨w.heap.size, 2, none⟩) (v := .int .i64 a0_2) (by go_simp) (by simp)
  have hc3 := hg.cell (a := ⟨w.heap.size, 3, none⟩) (v := .int .i64 a0_3) (by go_simp) (by simp)
  have HG2 := Lib.hid (grownBy_trans (World.grownBy_alloc _ _ _) hg)
  have l2 : w.heap.size < w2.heap.size := by have := hg.size; simp at this; omega
  clear hg
  go_wp2_with fail
  refine (rt_step_spec a0_0 a0_1 a0_2 a0_3 a1 _).mono ?_
  rintro e w3 ⟨rfl, hg⟩
  rw [hv]
  have hd0 := hg.cell hc0 (by simp)
  have hd1 := hg.cell hc1 (by simp)
  have hd2 := hg.cell hc2 (by simp)
  have hd3 := hg.cell hc3 (by simp)
  have HG3 := Lib.hid (grownBy_trans HG2.out hg)
  have l3 : w.heap.size < w3.heap.size := by have := hg.size; omega
  clear hg hc0 hc1 hc2 hc3
  go_wp2_with fail
  refine (to_law a0_0 a0_1 a0_2 a0_3 _).mono ?_
  rintro e w4 ⟨rfl, hg⟩
  have hc0 := hg.cell (a := ⟨w3.heap.size, 0, none⟩) (v := .bool h') (by go_simp) (by simp)
  have hc1 := hg.cell (a := ⟨w3.heap.size, 1, none⟩) (v := .int .i64 m') (by go_simp) (by simp)
  have hc2 := hg.cell (a := ⟨w3.heap.size, 2, none⟩) (v := .int .i64 v') (by go_simp) (by simp)
  have hc3 := hg.cell (a := ⟨w3.heap.size, 3, none⟩) (v := .int .i64 r') (by go_simp) (by simp)
  have HG4 := Lib.hid (grownBy_trans (grownBy_trans HG3.out (World.grownBy_alloc _ _ _)) hg)
  have l4 : w3.heap.size < w4.heap.size := by have := hg.size; simp at this; omega
  clear hg hd0 hd1 hd2 hd3
  go_wp2_with fail
  refine (rt_step_impl a0_0 a0_1 a0_2 a0_3 a1 _).mono ?_
  rintro e w5 ⟨rfl, hg⟩
  rw [hv]
  have hd0 := hg.cell hc0 (by simp)
  have hd1 := hg.cell hc1 (by simp)
  have hd2 := hg.cell hc2 (by simp)
  have hd3 := hg.cell hc3 (by simp)
  have HG5 := Lib.hid (grownBy_trans HG4.out hg)
  have l5 : w3.heap.size < w5.heap.size := by have := hg.size; omega
  clear hg hc0 hc1 hc2 hc3
  go_wp2_with fail
  refine (eq_same h' m' v' r' _).mono ?_
  rintro e w6 ⟨rfl, hg⟩
  have HG6 := Lib.hid (grownBy_trans (grownBy_trans HG5.out (World.grownBy_alloc _ _ _)) hg)
  clear hg
  go_wp2_with fail
  go_ret
  exact ⟨rfl, below_new HG6.out⟩

set_option maxRecDepth 100000 in
theorem lifted (os : Os) (started : os.Started) (H : Type) (enc : TypeId × Value → H) :
    ReturnsInHanded {} Try.checked os 7 .any (Rows.fnExactRttStepSpec.pre6 enc Try.prog Try.f7 Rows.fnExactRttStepRow.domain false) (Rows.fnExactRttStepSpec.post enc Try.prog Try.f7 false true false false) := by
  refine returnsInHanded_of_change (C := Try.checked) own started (by kernel_rfl) Try.func7
    (ChangeSpec.witness6 (enc := enc) (C := Try.checked) false ⟨#[], #[.agg #[.bool false, .int .i64 0, .int .i64 0, .int .i64 0], .int .i64 0], []⟩ 8 (by kernel_rfl) (by kernel_rfl) (by kernel_rfl) (by kernel_rfl)) ?_
  intro W base args ds gs before hval0 hW hcnd _
  have hval : ∀ (j : Nat) t v, Try.f7.params[j]? = some t → args[j]? = some v → Value.okWide Try.prog W .any base t v := hval0
  have hW' := hW
  obtain ⟨p, q, hA0, hV, rfl, hfz, hnd⟩ := hW
  have hA : DataW.TrodAll enc Try.prog W 0 (fun _ => true) true Try.f7.params.toList args.toList ds p := hA0
  rw [Try.params7] at hA hval
  obtain ⟨v0, vs0, d0, ds0, p0, q0, hargs, rfl, rfl, h0, r0⟩ := trodAll_cons hA
  obtain ⟨v1, vs1, d1, ds1, p1, q1, rfl, rfl, rfl, h1, r1⟩ := trodAll_cons r0
  obtain ⟨rfl, rfl, rfl⟩ := trodAll_nil r1
  obtain rfl : args = #[v0, v1] := by cases args; simp_all
  obtain ⟨rfl, rfl⟩ := trodVars_none hV
  have k0 := h0
  have lt0 : ∀ x ∈ p0, x.block < W.heap.size := by obtain ⟨m, hm⟩ := k0; exact DataW.trod_lt m _ _ _ hm
  obtain ⟨c0_0, c0_1, c0_2, c0_3, y0_0, y0_1, y0_2, y0_3, m0, rfl, rfl, rfl, hy0_0, hy0_1, hy0_2, hy0_3⟩ := open_agg4 Try.underlying36 (by kernel_rfl) cells36 (hval 0 36 v0 rfl rfl) h0
  obtain ⟨a0_0, e0_0, rfl⟩ := DataW.trod_bool Try.underlying4 hy0_0
  simp only [List.cons.injEq, and_true] at e0_0
  subst e0_0
  obtain ⟨a0_1, e0_1, rfl, w0_1⟩ := DataW.trod_int Try.underlying2 hy0_1
  simp only [List.cons.injEq, and_true] at e0_1
  subst e0_1
  obtain ⟨a0_2, e0_2, rfl, w0_2⟩ := DataW.trod_int Try.underlying2 hy0_2
  simp only [List.cons.injEq, and_true] at e0_2
  subst e0_2
  obtain ⟨a0_3, e0_3, rfl, w0_3⟩ := DataW.trod_int Try.underlying2 hy0_3
  simp only [List.cons.injEq, and_true] at e0_3
  subst e0_3
  have k1 := h1
  have lt1 : ∀ x ∈ p1, x.block < W.heap.size := by obtain ⟨m, hm⟩ := k1; exact DataW.trod_lt m _ _ _ hm
  obtain ⟨a1, rfl, rfl, rfl, w1⟩ := open_int Try.underlying2 (hval 1 2 v1 rfl rfl) h1
  clear hA0 hval0
  refine (walk a0_0 a0_1 a0_2 a0_3 a1 W w0_1 w0_2 w0_3 w1).mono fun e W' ⟨he, bel⟩ => ?_
  subst he
  exact ⟨_, rfl, _, _, _, [], _, [], hW', trodAll_mk1 (shut_bool Try.underlying4 _), (trodAll_cons_mk (Below.trod laidOut (by kernel_rfl) (of_decide_eq_true (by kernel_rfl)) k0 bel lt0) (trodAll_cons_mk (Below.trod laidOut (by kernel_rfl) (of_decide_eq_true (by kernel_rfl)) k1 bel lt1) trodAll_mk0)), rfl, bel.frame _, fun h => by cases h⟩

theorem over : Rows.fnExactRttStepRow.holds Try.pinned (OpenSpec.ofChange Rows.fnExactRttStepSpec) :=
  OpenClaim.holds_of_wide 7 Try.f7 rfl rfl rfl rfl rfl rfl rfl ⟨rfl, rfl, rfl, rfl, rfl⟩ rfl rfl rfl rfl rfl (by kernel_rfl) Try.func7 (by kernel_rfl)
    (of_decide_eq_true (by kernel_rfl)) (by unfold Func.isWrapper; first | (rw [if_pos (by decide +kernel)]; kernel_rfl) | (rw [if_neg (by decide +kernel)]; exact ⟨rfl, rfl⟩))
    (fun os started H enc _ => lifted os started H enc)

theorem proved : Rows.FnExactRttStepSaid := over
end Go.Proofs.Ythnmkghaejapjaa.fnExactRttStep
