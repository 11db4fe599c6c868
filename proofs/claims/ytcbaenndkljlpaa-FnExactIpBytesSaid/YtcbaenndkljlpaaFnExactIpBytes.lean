/- For every packet the law FnExactIpBytes answers true and leaves its argument as it was; no condition. -/
import Derived.Test.YtcbaenndkljlpaaRows
import Derived.Test.YtcbaenndkljlpaaDraw
import Derived.Test.YtcbaenndkljlpaaDrawB
import Derived.Test.YtcbaenndkljlpaaOct
import Derived.Test.YtcbaenndkljlpaaIpS
import Derived.Test.YtcbaenndkljlpaaAgg
import Derived.WalkKit
import Derived.ProofKit
import Derived.OpenShut
import Derived.ShutString
import Derived.ChangeOld
import Derived.Below
import Derived.Lib.SmallJoins
namespace Go.Proofs.Ytcbaenndkljlpaa.fnExactIpBytes
open Go.ChangeShapes Go.WideShapes Go.ChangeAt Go.RowKit Go.Joins
open Go.ChangeMaps (open_string shut_string)
set_option linter.unusedVariables false

theorem own : ownKnob Try.prog.godebug = none := by kernel_rfl
theorem laidOut : laidOutB Try.prog = true := by kernel_rfl
theorem cells33 : Try.prog.cellsOf 33 = 6 := by kernel_rfl

theorem size_law (s d t p i : Int) (b : List UInt8) (w : World) (hb : b.length ≤ 9223372036854775807) : Calls Try.prog 18 #[.agg #[.int .i64 s, .int .i64 d, .int .i64 t, .int .i64 p, .int .i64 i, .string ⟨b.toArray⟩], .int .i64 1048576] w fun e w' => (∃ r : Int, e = .returned (.int .i64 r)) ∧ w.grownBy w' none := by
  by_cases h1 : (b.length : Int) ≤ 1048576
  all_goals
    go_enter Try.func18, Try.ntmps18
    go_wp2
    go_ret
    exact ⟨⟨_, rfl⟩, World.grownBy_alloc _ _ _⟩

theorem to_law (s d t p i : Int) (b : List UInt8) (w : World) : Calls Try.prog 19 #[.agg #[.int .i64 s, .int .i64 d, .int .i64 t, .int .i64 p, .int .i64 i, .string ⟨b.toArray⟩]] w fun e w' => e = .returned (ipV s d t p i b) ∧ w.grownBy w' none := by
  go_enter Try.func19, Try.ntmps19
  go_wp2
  exact bodyPost_ret (v := ipV s d t p i b) (by simp [results, Try.results19, go_sem]) rfl ⟨rfl, grownBy_trans (World.grownBy_alloc _ _ _) (grownBy_trans (World.grownBy_alloc _ _ _) (World.grownBy_alloc _ _ _))⟩

set_option maxRecDepth 100000 in
set_option maxHeartbeats 1000000 in
theorem walk (a0_0 : Int) (a0_1 : Int) (a0_2 : Int) (a0_3 : Int) (a0_4 : Int) (a0_5 : ByteArray) (w : World) (w0_0 : (Lit.int .i64 a0_0).wf = true) (w0_1 : (Lit.int .i64 a0_1).wf = true) (w0_2 : (Lit.int .i64 a0_2).wf = true) (w0_3 : (Lit.int .i64 a0_3).wf = true) (w0_4 : (Lit.int .i64 a0_4).wf = true) (w0_5 : a0_5.size ≤ maxLen) :
    Calls Try.prog 6 #[.agg #[.int .i64 a0_0, .int .i64 a0_1, .int .i64 a0_2, .int .i64 a0_3, .int .i64 a0_4, .string a0_5]] w fun e w' => e = .returned (.bool true) ∧ Below w.heap.size w w' := by
  obtain ⟨b, rfl⟩ : ∃ l : List UInt8, a0_5 = ⟨l.toArray⟩ := ⟨a0_5.data.toList, ba_of rfl⟩
  rw [str_size] at w0_5
  unfold maxLen at w0_5
  clear w0_0 w0_1 w0_2 w0_3 w0_4
  have HL := Lib.hid w0_5
  clear w0_5
  go_enter Try.func6, Try.ntmps6
  go_wp2_with fail
  refine (size_law a0_0 a0_1 a0_2 a0_3 a0_4 b _ (by have := HL.out; omega)).mono ?_
  rintro e w1 ⟨⟨r, rfl⟩, hg⟩
  have hc0 := hg.cell (a := ⟨w.heap.size, 0, none⟩) (v := .int .i64 a0_0) (by go_simp) (by simp)
  have hc1 := hg.cell (a := ⟨w.heap.size, 1, none⟩) (v := .int .i64 a0_1) (by go_simp) (by simp)
  have hc2 := hg.cell (a := ⟨w.heap.size, 2, none⟩) (v := .int .i64 a0_2) (by go_simp) (by simp)
  have hc3 := hg.cell (a := ⟨w.heap.size, 3, none⟩) (v := .int .i64 a0_3) (by go_simp) (by simp)
  have hc4 := hg.cell (a := ⟨w.heap.size, 4, none⟩) (v := .int .i64 a0_4) (by go_simp) (by simp)
  have hc5 := hg.cell (a := ⟨w.heap.size, 5, none⟩) (v := .string ⟨b.toArray⟩) (by go_simp) (by simp)
  have HG := Lib.hid (grownBy_trans (World.grownBy_alloc _ _ _) hg)
  clear hg
  by_cases hr : r < 0
  · go_wp2_with fail
    go_ret
    exact ⟨rfl, below_new HG.out⟩
  · go_wp2_with fail
    refine (to_law a0_0 a0_1 a0_2 a0_3 a0_4 b _).mono ?_
    rintro e w2 ⟨rfl, hg⟩
    have hd0 := hg.cell hc0 (by simp)
    have hd1 := hg.cell hc1 (by simp)
    have hd2 := hg.cell hc2 (by simp)
    have hd3 := hg.cell hc3 (by simp)
    have hd4 := hg.cell hc4 (by simp)
    have hd5 := hg.cell hc5 (by simp)
    have HG2 := Lib.hid (grownBy_trans HG.out hg)
    clear hg hc0 hc1 hc2 hc3 hc4 hc5
    go_wp2_with fail
    refine (ip_spec a0_0 a0_1 a0_2 a0_3 a0_4 b _).mono ?_
    rintro e w3 ⟨rfl, hg⟩
    have hc0 := hg.cell hd0 (by simp)
    have hc1 := hg.cell hd1 (by simp)
    have hc2 := hg.cell hd2 (by simp)
    have hc3 := hg.cell hd3 (by simp)
    have hc4 := hg.cell hd4 (by simp)
    have hc5 := hg.cell hd5 (by simp)
    have HG3 := Lib.hid (grownBy_trans HG2.out hg)
    clear hg hd0 hd1 hd2 hd3 hd4 hd5
    go_wp2_with fail
    refine (to_law a0_0 a0_1 a0_2 a0_3 a0_4 b _).mono ?_
    rintro e w4 ⟨rfl, hg⟩
    have HG4 := Lib.hid (grownBy_trans HG3.out hg)
    clear hg hc0 hc1 hc2 hc3 hc4 hc5
    go_wp2_with fail
    refine (ip_impl a0_0 a0_1 a0_2 a0_3 a0_4 b _).mono ?_
    rintro e w5 ⟨rfl, hg⟩
    have HG5 := Lib.hid (grownBy_trans HG4.out hg)
    clear hg
    generalize ipL a0_0 a0_1 a0_2 a0_3 a0_4 b = d
    go_wp2_with fail
    go_ret
    exact ⟨rfl, below_new HG5.out⟩

set_option maxRecDepth 100000 in
theorem lifted (os : Os) (started : os.Started) (H : Type) (enc : TypeId × Value → H) :
    ReturnsInHanded {} Try.checked os 6 .any (Rows.fnExactIpBytesSpec.pre6 enc Try.prog Try.f6 Rows.fnExactIpBytesRow.domain false) (Rows.fnExactIpBytesSpec.post enc Try.prog Try.f6 false true false false) := by
  refine returnsInHanded_of_change (C := Try.checked) own started (by kernel_rfl) Try.func6
    (ChangeSpec.witness6 (enc := enc) (C := Try.checked) false ⟨#[], #[.agg #[.int .i64 0, .int .i64 0, .int .i64 0, .int .i64 0, .int .i64 0, .string ByteArray.empty]], []⟩ 8 (by kernel_rfl) (by kernel_rfl) (by kernel_rfl) (by kernel_rfl)) ?_
  intro W base args ds gs before hval0 hW hcnd _
  have hval : ∀ (j : Nat) t v, Try.f6.params[j]? = some t → args[j]? = some v → Value.okWide Try.prog W .any base t v := hval0
  have hW' := hW
  obtain ⟨p, q, hA0, hV, rfl, hfz, hnd⟩ := hW
  have hA : DataW.TrodAll enc Try.prog W 0 (fun _ => true) true Try.f6.params.toList args.toList ds p := hA0
  rw [Try.params6] at hA hval
  obtain ⟨v0, vs0, d0, ds0, p0, q0, hargs, rfl, rfl, h0, r0⟩ := trodAll_cons hA
  obtain ⟨rfl, rfl, rfl⟩ := trodAll_nil r0
  obtain rfl : args = #[v0] := by cases args; simp_all
  obtain ⟨rfl, rfl⟩ := trodVars_none hV
  have k0 := h0
  have lt0 : ∀ x ∈ p0, x.block < W.heap.size := by obtain ⟨m, hm⟩ := k0; exact DataW.trod_lt m _ _ _ hm
  obtain ⟨c0_0, c0_1, c0_2, c0_3, c0_4, c0_5, y0_0, y0_1, y0_2, y0_3, y0_4, y0_5, m0, rfl, rfl, rfl, hy0_0, hy0_1, hy0_2, hy0_3, hy0_4, hy0_5⟩ := open_agg6 Try.underlying33 (by kernel_rfl) cells33 (hval 0 33 v0 rfl rfl) h0
  obtain ⟨a0_0, e0_0, rfl, w0_0⟩ := DataW.trod_int Try.underlying2 hy0_0
  simp only [List.cons.injEq, and_true] at e0_0
  subst e0_0
  obtain ⟨a0_1, e0_1, rfl, w0_1⟩ := DataW.trod_int Try.underlying2 hy0_1
  simp only [List.cons.injEq, and_true] at e0_1
  subst e0_1
  obtain ⟨a0_2, e0_2, rfl, w0_2⟩ := DataW.trod_int Try.underlying2 hy0_2
  simp only [List.cons.injEq, and_true] at e0_2
  subst e0_2
  obtain ⟨a0_3, e0_3, rfl, w0_3⟩ := DataW.trod_int Try.underlying2 hy0_3
  simp only [List.cons.injEq, and_true] at e0_3
  subst e0_3
  obtain ⟨a0_4, e0_4, rfl, w0_4⟩ := DataW.trod_int Try.underlying2 hy0_4
  simp only [List.cons.injEq, and_true] at e0_4
  subst e0_4
  obtain ⟨a0_5, e0_5, rfl, w0_5⟩ := DataW.trod_string Try.underlying9 hy0_5
  simp only [List.cons.injEq, and_true] at e0_5
  subst e0_5
  clear hA0 hval0
  refine (walk a0_0 a0_1 a0_2 a0_3 a0_4 a0_5 W w0_0 w0_1 w0_2 w0_3 w0_4 w0_5).mono fun e W' ⟨he, bel⟩ => ?_
  subst he
  exact ⟨_, rfl, _, _, _, [], _, [], hW', trodAll_mk1 (shut_bool Try.underlying4 _), (trodAll_cons_mk (Below.trod laidOut (by kernel_rfl) (of_decide_eq_true (by kernel_rfl)) k0 bel lt0) trodAll_mk0), rfl, bel.frame _, fun h => by cases h⟩

theorem over : Rows.fnExactIpBytesRow.holds Try.pinned (OpenSpec.ofChange Rows.fnExactIpBytesSpec) :=
  OpenClaim.holds_of_wide 6 Try.f6 rfl rfl rfl rfl rfl rfl rfl ⟨rfl, rfl, rfl, rfl, rfl⟩ rfl rfl rfl rfl rfl (by kernel_rfl) Try.func6 (by kernel_rfl)
    (of_decide_eq_true (by kernel_rfl)) (by unfold Func.isWrapper; first | (rw [if_pos (by decide +kernel)]; kernel_rfl) | (rw [if_neg (by decide +kernel)]; exact ⟨rfl, rfl⟩))
    (fun os started H enc _ => lifted os started H enc)

theorem proved : Rows.FnExactIpBytesSaid := over
end Go.Proofs.Ytcbaenndkljlpaa.fnExactIpBytes
