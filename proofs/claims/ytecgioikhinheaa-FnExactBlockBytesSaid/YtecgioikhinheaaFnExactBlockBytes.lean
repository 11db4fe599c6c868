/- For every block and either order of bytes the law FnExactBlockBytes answers true and leaves its arguments as they were; no condition. -/
import Derived.Test.YtecgioikhinheaaRows
import Derived.Test.YtecgioikhinheaaBlk
import Derived.WalkKit
import Derived.ProofKit
import Derived.OpenShut
import Derived.ShutString
import Derived.ChangeOld
import Derived.Below
import Derived.Lib.SmallJoins
namespace Go.Proofs.Ytecgioikhinheaa.fnExactBlockBytes
open Go.ChangeShapes Go.WideShapes Go.ChangeAt Go.RowKit Go.Joins
open Go.ChangeMaps (open_string shut_string)
set_option linter.unusedVariables false

theorem own : ownKnob Try.prog.godebug = none := by kernel_rfl
theorem laidOut : laidOutB Try.prog = true := by kernel_rfl
theorem cells41 : Try.prog.cellsOf 41 = 2 := by kernel_rfl

theorem size_law (k : Int) (l : List UInt8) (n : Int) (w : World) (hl : l.length ≤ 9223372036854775807) (hn : n = 1048576) : Calls Try.prog 24 #[.agg #[.int .i64 k, .string ⟨l.toArray⟩], .int .i64 n] w fun e w' => e = .returned (.int .i64 (if (l.length : Int) ≤ 1048576 then 1048576 - (l.length : Int) else -1)) ∧ w.grownBy w' none := by
  subst hn
  by_cases h : (l.length : Int) ≤ 1048576
  · rw [if_pos h]
    go_enter Try.func24, Try.ntmps24
    go_wp2
    go_ret
    exact ⟨rfl, World.grownBy_alloc _ _ _⟩
  · rw [if_neg h]
    go_enter Try.func24, Try.ntmps24
    go_wp2
    go_ret
    exact ⟨rfl, World.grownBy_alloc _ _ _⟩

theorem to_law (k : Int) (l : List UInt8) (w : World) : Calls Try.prog 25 #[.agg #[.int .i64 k, .string ⟨l.toArray⟩]] w fun e w' => e = .returned (.agg #[.int .i64 k, .string ⟨l.toArray⟩]) ∧ w.grownBy w' none := by
  go_enter Try.func25, Try.ntmps25
  go_wp2
  exact bodyPost_ret (v := .agg #[.int .i64 k, .string ⟨l.toArray⟩]) (by simp [results, Try.results25, go_sem]) rfl ⟨rfl, grownBy_trans (World.grownBy_alloc _ _ _) (grownBy_trans (World.grownBy_alloc _ _ _) (World.grownBy_alloc _ _ _))⟩

set_option maxRecDepth 100000 in
set_option maxHeartbeats 1000000 in
theorem walk (a0_0 : Int) (a0_1 : ByteArray) (a1 : Bool) (w : World) (w0_0 : (Lit.int .i64 a0_0).wf = true) (w0_1 : a0_1.size ≤ maxLen) :
    Calls Try.prog 6 #[.agg #[.int .i64 a0_0, .string a0_1], .bool a1] w fun e w' => e = .returned (.bool true) ∧ Below w.heap.size w w' := by
  obtain ⟨l, rfl⟩ : ∃ l : List UInt8, a0_1 = ⟨l.toArray⟩ := ⟨a0_1.data.toList, ba_of rfl⟩
  rw [str_size] at w0_1
  unfold maxLen at w0_1
  clear w0_0
  by_cases hbig : (l.length : Int) ≤ 1048576
  · go_enter Try.func6, Try.ntmps6
    go_wp2_with fail
    refine (size_law _ _ _ _ (by omega) rfl).mono ?_
    rintro e w1 ⟨rfl, hg⟩
    rw [if_pos hbig]
    have hc0 := hg.cell (a := ⟨w.heap.size, 0, none⟩) (v := .int .i64 a0_0) (by go_simp) (by simp)
    have hc1 := hg.cell (a := ⟨w.heap.size, 1, none⟩) (v := .string ⟨l.toArray⟩) (by go_simp) (by simp)
    have HG := Lib.hid (grownBy_trans (World.grownBy_alloc _ _ _) hg)
    clear hg
    go_wp2_with fail
    refine (to_law _ _ _).mono ?_
    rintro e w2 ⟨rfl, hg⟩
    have hd0 := hg.cell hc0 (by simp)
    have hd1 := hg.cell hc1 (by simp)
    have HG2 := Lib.hid (grownBy_trans HG.out hg)
    clear hg hc0 hc1
    go_wp2_with fail
    refine (block_spec _ _ _ _ (by omega)).mono ?_
    rintro e w3 ⟨rfl, hg⟩
    have hc0 := hg.cell hd0 (by simp)
    have hc1 := hg.cell hd1 (by simp)
    have HG3 := Lib.hid (grownBy_trans HG2.out hg)
    clear hg hd0 hd1
    go_wp2_with fail
    refine (to_law _ _ _).mono ?_
    rintro e w4 ⟨rfl, hg⟩
    have HG4 := Lib.hid (grownBy_trans HG3.out hg)
    clear hg
    go_wp2_with fail
    refine (block_impl _ _ _ _ (by omega)).mono ?_
    rintro e w5 ⟨rfl, hg⟩
    have HG5 := Lib.hid (grownBy_trans HG4.out hg)
    clear hg
    go_wp2_with fail
    go_ret
    exact ⟨rfl, below_new HG5.out⟩
  · go_enter Try.func6, Try.ntmps6
    go_wp2_with fail
    refine (size_law _ _ _ _ (by omega) rfl).mono ?_
    rintro e w1 ⟨rfl, hg⟩
    rw [if_neg (by omega)]
    have HG := Lib.hid (grownBy_trans (World.grownBy_alloc _ _ _) hg)
    clear hg
    go_wp2_with fail
    go_ret
    exact ⟨rfl, below_new HG.out⟩

set_option maxRecDepth 100000 in
theorem lifted (os : Os) (started : os.Started) (H : Type) (enc : TypeId × Value → H) :
    ReturnsInHanded {} Try.checked os 6 .any (Rows.fnExactBlockBytesSpec.pre6 enc Try.prog Try.f6 Rows.fnExactBlockBytesRow.domain false) (Rows.fnExactBlockBytesSpec.post enc Try.prog Try.f6 false true false false) := by
  refine returnsInHanded_of_change (C := Try.checked) own started (by kernel_rfl) Try.func6
    (ChangeSpec.witness6 (enc := enc) (C := Try.checked) false ⟨#[], #[.agg #[.int .i64 0, .string ByteArray.empty], .bool false], []⟩ 8 (by kernel_rfl) (by kernel_rfl) (by kernel_rfl) (by kernel_rfl)) ?_
  intro W base args ds gs before hval0 hW hcnd _
  have hval : ∀ (j : Nat) t v, Try.f6.params[j]? = some t → args[j]? = some v → Value.okWide Try.prog W .any base t v := hval0
  have hW' := hW
  obtain ⟨p, q, hA0, hV, rfl, hfz, hnd⟩ := hW
  have hA : DataW.TrodAll enc Try.prog W 0 (fun _ => true) true Try.f6.params.toList args.toList ds p := hA0
  rw [Try.params6] at hA hval
  obtain ⟨v0, vs0, d0, ds0, p0, q0, hargs, rfl, rfl, h0, r0⟩ := trodAll_cons hA
  obtain ⟨v1, vs1, d1, ds1, p1, q1, rfl, rfl, rfl, h1, r1⟩ := trodAll_cons r0
  obtain ⟨rfl, rfl, rfl⟩ := trodAll_nil r1
  obtain rfl : args = #[v0, v1] := by cases args; simp_all
  obtain ⟨rfl, rfl⟩ := trodVars_none hV
  have k0 := h0
  have lt0 : ∀ x ∈ p0, x.block < W.heap.size := by obtain ⟨m, hm⟩ := k0; exact DataW.trod_lt m _ _ _ hm
  obtain ⟨c0_0, c0_1, y0_0, y0_1, m0, rfl, rfl, rfl, hy0_0, hy0_1⟩ := open_agg2 Try.underlying41 (by kernel_rfl) cells41 (hval 0 41 v0 rfl rfl) h0
  obtain ⟨a0_0, e0_0, rfl, w0_0⟩ := DataW.trod_int Try.underlying2 hy0_0
  simp only [List.cons.injEq, and_true] at e0_0
  subst e0_0
  obtain ⟨a0_1, e0_1, rfl, w0_1⟩ := DataW.trod_string Try.underlying9 hy0_1
  simp only [List.cons.injEq, and_true] at e0_1
  subst e0_1
  have k1 := h1
  have lt1 : ∀ x ∈ p1, x.block < W.heap.size := by obtain ⟨m, hm⟩ := k1; exact DataW.trod_lt m _ _ _ hm
  obtain ⟨a1, rfl, rfl, rfl⟩ := open_bool Try.underlying4 (hval 1 4 v1 rfl rfl) h1
  clear hA0 hval0
  refine (walk a0_0 a0_1 a1 W w0_0 w0_1).mono fun e W' ⟨he, bel⟩ => ?_
  subst he
  exact ⟨_, rfl, _, _, _, [], _, [], hW', trodAll_mk1 (shut_bool Try.underlying4 _), (trodAll_cons_mk (Below.trod laidOut (by kernel_rfl) (of_decide_eq_true (by kernel_rfl)) k0 bel lt0) (trodAll_cons_mk (Below.trod laidOut (by kernel_rfl) (of_decide_eq_true (by kernel_rfl)) k1 bel lt1) trodAll_mk0)), rfl, bel.frame _, fun h => by cases h⟩

theorem over : Rows.fnExactBlockBytesRow.holds Try.pinned (OpenSpec.ofChange Rows.fnExactBlockBytesSpec) :=
  OpenClaim.holds_of_wide 6 Try.f6 rfl rfl rfl rfl rfl rfl rfl ⟨rfl, rfl, rfl, rfl, rfl⟩ rfl rfl rfl rfl rfl (by kernel_rfl) Try.func6 (by kernel_rfl)
    (of_decide_eq_true (by kernel_rfl)) (by unfold Func.isWrapper; first | (rw [if_pos (by decide +kernel)]; kernel_rfl) | (rw [if_neg (by decide +kernel)]; exact ⟨rfl, rfl⟩))
    (fun os started H enc _ => lifted os started H enc)

theorem proved : Rows.FnExactBlockBytesSaid := over
end Go.Proofs.Ytecgioikhinheaa.fnExactBlockBytes
