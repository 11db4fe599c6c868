/- For every fragment the law FnExactFragOk answers true and leaves its argument as it was; no condition. -/
import Derived.Test.YtjgmkjbeagcgfaaRows
import Derived.Test.YtjgmkjbeagcgfaaDraw
import Derived.Test.YtjgmkjbeagcgfaaFrOk
import Derived.WalkKit
import Derived.ProofKit
import Derived.OpenShut
import Derived.ShutString
import Derived.ChangeOld
import Derived.Below
import Derived.Lib.SmallJoins
namespace Go.Proofs.Ytjgmkjbeagcgfaa.fnExactFragOk
open Go.ChangeShapes Go.WideShapes Go.ChangeAt Go.RowKit Go.Joins
open Go.ChangeMaps (open_string shut_string)
set_option linter.unusedVariables false

theorem own : ownKnob Try.prog.godebug = none := by kernel_rfl
theorem laidOut : laidOutB Try.prog = true := by kernel_rfl
theorem cells23 : Try.prog.cellsOf 23 = 3 := by kernel_rfl

theorem dummy : True := trivial

set_option maxRecDepth 100000 in
set_option maxHeartbeats 1000000 in
theorem walk (a0_0 : Int) (a0_1 : Bool) (a0_2 : ByteArray) (w : World) (w0_0 : (Lit.int .i64 a0_0).wf = true) (w0_2 : a0_2.size ≤ maxLen) :
    Calls Try.prog 3 #[.agg #[.int .i64 a0_0, .bool a0_1, .string a0_2]] w fun e w' => e = .returned (.bool true) ∧ Below w.heap.size w w' := by
  obtain ⟨b, rfl⟩ : ∃ l : List UInt8, a0_2 = ⟨l.toArray⟩ := ⟨a0_2.data.toList, ba_of rfl⟩
  rw [str_size] at w0_2
  unfold maxLen at w0_2
  clear w0_0
  go_enter Try.func3, Try.ntmps3
  go_wp2_with fail
  refine (sz_fg a0_0 a0_1 b 1048576 _ (by omega) (by omega) (by omega)).mono ?_
  rintro e w1 ⟨rfl, hg⟩
  have hc0 := hg.cell (a := ⟨w.heap.size, 0, none⟩) (v := .int .i64 a0_0) (by go_simp) (by simp)
  have hc1 := hg.cell (a := ⟨w.heap.size, 1, none⟩) (v := .bool a0_1) (by go_simp) (by simp)
  have hc2 := hg.cell (a := ⟨w.heap.size, 2, none⟩) (v := .string ⟨b.toArray⟩) (by go_simp) (by simp)
  have HG := Lib.hid (grownBy_trans (World.grownBy_alloc _ _ _) hg)
  clear hg
  by_cases hr : (b.length : Int) ≤ 1048576
  · rw [if_pos hr]
    have hr2 : ¬ 1048576 - (b.length : Int) < 0 := by omega
    obtain ⟨B, hB⟩ : ∃ B, decide (frP a0_0 a0_1 b) = B := ⟨_, rfl⟩
    have HB := Lib.hid hB
    clear hB
    go_wp2_with fail
    refine (to_fg a0_0 a0_1 b _).mono ?_
    rintro e w2 ⟨rfl, hg⟩
    have hd0 := hg.cell hc0 (by simp)
    have hd1 := hg.cell hc1 (by simp)
    have hd2 := hg.cell hc2 (by simp)
    have HGn := Lib.hid (grownBy_trans HG.out hg)
    clear hg HG hc0 hc1 hc2
    have HG := HGn
    clear HGn
    go_wp2_with fail
    refine (fr_S a0_0 a0_1 b _ (by omega)).mono ?_
    rintro e w3 ⟨rfl, hg⟩
    rw [HB.out]
    have hc0 := hg.cell hd0 (by simp)
    have hc1 := hg.cell hd1 (by simp)
    have hc2 := hg.cell hd2 (by simp)
    have HGn := Lib.hid (grownBy_trans HG.out hg)
    clear hg HG hd0 hd1 hd2
    have HG := HGn
    clear HGn
    go_wp2_with fail
    refine (to_fg a0_0 a0_1 b _).mono ?_
    rintro e w4 ⟨rfl, hg⟩
    have hd0 := hg.cell hc0 (by simp)
    have hd1 := hg.cell hc1 (by simp)
    have hd2 := hg.cell hc2 (by simp)
    have HGn := Lib.hid (grownBy_trans HG.out hg)
    clear hg HG hc0 hc1 hc2
    have HG := HGn
    clear HGn
    go_wp2_with fail
    refine (fr_I a0_0 a0_1 b _ (by omega)).mono ?_
    rintro e w5 ⟨rfl, hg⟩
    rw [HB.out]
    have hc0 := hg.cell hd0 (by simp)
    have hc1 := hg.cell hd1 (by simp)
    have hc2 := hg.cell hd2 (by simp)
    have HGn := Lib.hid (grownBy_trans HG.out hg)
    clear hg HG hd0 hd1 hd2
    have HG := HGn
    clear HGn
    go_wp2_with fail
    go_ret
    exact ⟨rfl, below_new HG.out⟩
  · rw [if_neg hr]
    go_wp2_with fail
    go_ret
    exact ⟨rfl, below_new HG.out⟩

set_option maxRecDepth 100000 in
theorem lifted (os : Os) (started : os.Started) (H : Type) (enc : TypeId × Value → H) :
    ReturnsInHanded {} Try.checked os 3 .any (Rows.fnExactFragOkSpec.pre6 enc Try.prog Try.f3 Rows.fnExactFragOkRow.domain false) (Rows.fnExactFragOkSpec.post enc Try.prog Try.f3 false true false false) := by
  refine returnsInHanded_of_change (C := Try.checked) own started (by kernel_rfl) Try.func3
    (ChangeSpec.witness6 (enc := enc) (C := Try.checked) false ⟨#[], #[.agg #[.int .i64 0, .bool false, .string ByteArray.empty]], []⟩ 8 (by kernel_rfl) (by kernel_rfl) (by kernel_rfl) (by kernel_rfl)) ?_
  intro W base args ds gs before hval0 hW hcnd _
  have hval : ∀ (j : Nat) t v, Try.f3.params[j]? = some t → args[j]? = some v → Value.okWide Try.prog W .any base t v := hval0
  have hW' := hW
  obtain ⟨p, q, hA0, hV, rfl, hfz, hnd⟩ := hW
  have hA : DataW.TrodAll enc Try.prog W 0 (fun _ => true) true Try.f3.params.toList args.toList ds p := hA0
  rw [Try.params3] at hA hval
  obtain ⟨v0, vs0, d0, ds0, p0, q0, hargs, rfl, rfl, h0, r0⟩ := trodAll_cons hA
  obtain ⟨rfl, rfl, rfl⟩ := trodAll_nil r0
  obtain rfl : args = #[v0] := by cases args; simp_all
  obtain ⟨rfl, rfl⟩ := trodVars_none hV
  have k0 := h0
  have lt0 : ∀ x ∈ p0, x.block < W.heap.size := by obtain ⟨m, hm⟩ := k0; exact DataW.trod_lt m _ _ _ hm
  obtain ⟨c0_0, c0_1, c0_2, y0_0, y0_1, y0_2, m0, rfl, rfl, rfl, hy0_0, hy0_1, hy0_2⟩ := open_agg3 Try.underlying23 (by kernel_rfl) cells23 (hval 0 23 v0 rfl rfl) h0
  obtain ⟨a0_0, e0_0, rfl, w0_0⟩ := DataW.trod_int Try.underlying2 hy0_0
  simp only [List.cons.injEq, and_true] at e0_0
  subst e0_0
  obtain ⟨a0_1, e0_1, rfl⟩ := DataW.trod_bool Try.underlying4 hy0_1
  simp only [List.cons.injEq, and_true] at e0_1
  subst e0_1
  obtain ⟨a0_2, e0_2, rfl, w0_2⟩ := DataW.trod_string Try.underlying9 hy0_2
  simp only [List.cons.injEq, and_true] at e0_2
  subst e0_2
  clear hA0 hval0
  refine (walk a0_0 a0_1 a0_2 W w0_0 w0_2).mono fun e W' ⟨he, bel⟩ => ?_
  subst he
  exact ⟨_, rfl, _, _, _, [], _, [], hW', trodAll_mk1 (shut_bool Try.underlying4 _), (trodAll_cons_mk (Below.trod laidOut (by kernel_rfl) (of_decide_eq_true (by kernel_rfl)) k0 bel lt0) trodAll_mk0), rfl, bel.frame _, fun h => by cases h⟩

theorem over : Rows.fnExactFragOkRow.holds Try.pinned (OpenSpec.ofChange Rows.fnExactFragOkSpec) :=
  OpenClaim.holds_of_wide 3 Try.f3 rfl rfl rfl rfl rfl rfl rfl ⟨rfl, rfl, rfl, rfl, rfl⟩ rfl rfl rfl rfl rfl (by kernel_rfl) Try.func3 (by kernel_rfl)
    (of_decide_eq_true (by kernel_rfl)) (by unfold Func.isWrapper; first | (rw [if_pos (by decide +kernel)]; kernel_rfl) | (rw [if_neg (by decide +kernel)]; exact ⟨rfl, rfl⟩))
    (fun os started H enc _ => lifted os started H enc)

theorem proved : Rows.FnExactFragOkSaid := over
end Go.Proofs.Ytjgmkjbeagcgfaa.fnExactFragOk
