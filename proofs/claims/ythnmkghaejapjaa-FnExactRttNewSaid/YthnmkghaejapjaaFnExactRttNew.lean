/- RttNew is as the model's. -/
import Derived.Test.YthnmkghaejapjaaRows
import Derived.Test.YthnmkghaejapjaaRtS
import Derived.Test.YthnmkghaejapjaaDraw
import Derived.WalkKit
import Derived.ProofKit
import Derived.OpenShut
import Derived.ShutString
import Derived.ChangeOld
import Derived.Below
import Derived.Lib.SmallJoins
namespace Go.Proofs.Ythnmkghaejapjaa.fnExactRttNew
open Go.ChangeShapes Go.WideShapes Go.ChangeAt Go.RowKit Go.Joins
open Go.ChangeMaps (open_string shut_string)
set_option linter.unusedVariables false

theorem own : ownKnob Try.prog.godebug = none := by kernel_rfl
theorem laidOut : laidOutB Try.prog = true := by kernel_rfl


theorem eq_same (h : Bool) (m v r : Int) (w : World) : Calls Try.prog 22 #[.agg #[.bool h, .int .i64 m, .int .i64 v, .int .i64 r], .agg #[.bool h, .int .i64 m, .int .i64 v, .int .i64 r]] w fun e w' => e = .returned (.bool true) ∧ w.grownBy w' none := by
  refine (rt_eq h h m v r m v r w).mono ?_
  rintro e w1 ⟨rfl, hg⟩
  exact ⟨ret_b (decide_eq_true ⟨rfl, rfl, rfl, rfl⟩), hg⟩

set_option maxRecDepth 100000 in
set_option maxHeartbeats 1000000 in
theorem walk  (w : World)  :
    Calls Try.prog 5 #[] w fun e w' => e = .returned (.bool true) ∧ Below w.heap.size w w' := by
  go_enter Try.func5, Try.ntmps5
  go_wp2_with fail
  refine (rt_new_spec _).mono ?_
  rintro e w1 ⟨rfl, hg⟩
  unfold rtV4
  have HG1 := Lib.hid hg
  clear hg
  go_wp2_with fail
  refine (rt_new_impl _).mono ?_
  rintro e w2 ⟨rfl, hg⟩
  unfold rtV4
  have hc0 := hg.cell (a := ⟨w1.heap.size, 0, none⟩) (v := .bool false) (by go_simp) (by simp)
  have hc1 := hg.cell (a := ⟨w1.heap.size, 1, none⟩) (v := .int .i64 0) (by go_simp) (by simp)
  have hc2 := hg.cell (a := ⟨w1.heap.size, 2, none⟩) (v := .int .i64 0) (by go_simp) (by simp)
  have hc3 := hg.cell (a := ⟨w1.heap.size, 3, none⟩) (v := .int .i64 1000) (by go_simp) (by simp)
  have HG2 := Lib.hid (grownBy_trans (grownBy_trans HG1.out (World.grownBy_alloc _ _ _)) hg)
  have hlt : w1.heap.size < w2.heap.size := by have := hg.size; simp at this; omega
  clear hg
  go_wp2_with fail
  refine (eq_same false 0 0 1000 _).mono ?_
  rintro e w3 ⟨rfl, hg⟩
  have HG3 := Lib.hid (grownBy_trans (grownBy_trans HG2.out (World.grownBy_alloc _ _ _)) hg)
  clear hg
  go_wp2_with fail
  go_ret
  exact ⟨rfl, below_new HG3.out⟩

set_option maxRecDepth 100000 in
theorem lifted (os : Os) (started : os.Started) (H : Type) (enc : TypeId × Value → H) :
    ReturnsInHanded {} Try.checked os 5 .any (Rows.fnExactRttNewSpec.pre6 enc Try.prog Try.f5 Rows.fnExactRttNewRow.domain false) (Rows.fnExactRttNewSpec.post enc Try.prog Try.f5 false true false false) := by
  refine returnsInHanded_of_change (C := Try.checked) own started (by kernel_rfl) Try.func5
    (ChangeSpec.witness6 (enc := enc) (C := Try.checked) false ⟨#[], #[], []⟩ 8 (by kernel_rfl) (by kernel_rfl) (by kernel_rfl) (by kernel_rfl)) ?_
  intro W base args ds gs before hval0 hW hcnd _
  have hval : ∀ (j : Nat) t v, Try.f5.params[j]? = some t → args[j]? = some v → Value.okWide Try.prog W .any base t v := hval0
  have hW' := hW
  obtain ⟨p, q, hA0, hV, rfl, hfz, hnd⟩ := hW
  have hA : DataW.TrodAll enc Try.prog W 0 (fun _ => true) true Try.f5.params.toList args.toList ds p := hA0
  rw [Try.params5] at hA hval
  obtain ⟨hargs, rfl, rfl⟩ := trodAll_nil hA
  obtain rfl : args = #[] := by cases args; simp_all
  obtain ⟨rfl, rfl⟩ := trodVars_none hV
  
  clear hA0 hval0
  refine (walk  W ).mono fun e W' ⟨he, bel⟩ => ?_
  subst he
  exact ⟨_, rfl, _, _, _, [], _, [], hW', trodAll_mk1 (shut_bool Try.underlying4 _), trodAll_mk0, rfl, bel.frame _, fun h => by cases h⟩

theorem over : Rows.fnExactRttNewRow.holds Try.pinned (OpenSpec.ofChange Rows.fnExactRttNewSpec) :=
  OpenClaim.holds_of_wide 5 Try.f5 rfl rfl rfl rfl rfl rfl rfl ⟨rfl, rfl, rfl, rfl, rfl⟩ rfl rfl rfl rfl rfl (by kernel_rfl) Try.func5 (by kernel_rfl)
    (of_decide_eq_true (by kernel_rfl)) (by unfold Func.isWrapper; first | (rw [if_pos (by decide +kernel)]; kernel_rfl) | (rw [if_neg (by decide +kernel)]; exact ⟨rfl, rfl⟩))
    (fun os started H enc _ => lifted os started H enc)

theorem proved : Rows.FnExactRttNewSaid := over
end Go.Proofs.Ythnmkghaejapjaa.fnExactRttNew
