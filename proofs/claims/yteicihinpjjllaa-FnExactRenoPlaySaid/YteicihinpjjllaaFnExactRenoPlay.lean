/- For every argument the law FnExactRenoPlay answers true and leaves its arguments as they were; no condition. -/
import Derived.Test.YteicihinpjjllaaRows
import Derived.Test.YteicihinpjjllaaDraw
import Derived.Test.YteicihinpjjllaaAgg
import Derived.Test.YteicihinpjjllaaEvr
import Derived.Test.YteicihinpjjllaaAgg
import Derived.WalkKit
import Derived.ProofKit
import Derived.OpenShut
import Derived.ShutString
import Derived.ChangeOld
import Derived.Below
import Derived.Lib.SmallJoins
namespace Go.Proofs.Yteicihinpjjllaa.fnExactRenoPlay
open Go.ChangeShapes Go.WideShapes Go.ChangeAt Go.RowKit Go.Joins
open Go.ChangeMaps (open_string shut_string)
set_option linter.unusedVariables false

theorem own : ownKnob Try.prog.godebug = none := by kernel_rfl
theorem laidOut : laidOutB Try.prog = true := by kernel_rfl
theorem cells44 : Try.prog.cellsOf 44 = 7 := by kernel_rfl
theorem cells47 : Try.prog.cellsOf 47 = 5 := by kernel_rfl

theorem pl_form (r : Rn) (l : List Ev) : ∃ (R0 R1 R2 R3 R4 R5 R6 N : Int), plV r l = .tuple #[.agg #[.int .i64 R0, .int .i64 R1, .int .i64 R2, .int .i64 R3, .int .i64 R4, .int .i64 R5, .int .i64 R6], .int .i64 N] := by
  unfold plV
  split
  · exact ⟨_, _, _, _, _, _, _, _, rfl⟩
  · exact ⟨_, _, _, _, _, _, _, _, rfl⟩
set_option maxRecDepth 100000 in
set_option maxHeartbeats 1000000 in
theorem sz_events (ao : Option Addr) (c : Nat) (l : List Ev) (w : World) (hl : (l.length : Int) ≤ 9223372036854775807) : Calls Try.prog 28 #[.slice ao l.length c, .int .i64 1048576] w fun e w' => e = .returned (.int .i64 (if (l.length : Int) ≤ 1048576 then 1048576 - (l.length : Int) else -1)) ∧ w' = w := by
  have h1 : IntKind.i64.wrap (1048576 - (l.length : Int)) = 1048576 - (l.length : Int) := IntWalk.i64_in _ (by omega)
  by_cases h : (l.length : Int) ≤ 1048576
  · rw [if_pos h]
    go_enter Try.func28, Try.ntmps28
    go_wp2
    go_ret
    exact ⟨rfl, rfl⟩
  · rw [if_neg h]
    go_enter Try.func28, Try.ntmps28
    go_wp2
    go_ret
    exact ⟨rfl, rfl⟩

set_option maxRecDepth 100000 in
set_option maxHeartbeats 2000000 in
theorem walk (a0_0 : Int) (a0_1 : Int) (a0_2 : Int) (a0_3 : Int) (a0_4 : Int) (a0_5 : Int) (a0_6 : Int) (a1 : Option Addr) (cap1 : Nat) (l1 : List Ev) (w : World) (w0_0 : (Lit.int .i64 a0_0).wf = true) (w0_1 : (Lit.int .i64 a0_1).wf = true) (w0_2 : (Lit.int .i64 a0_2).wf = true) (w0_3 : (Lit.int .i64 a0_3).wf = true) (w0_4 : (Lit.int .i64 a0_4).wf = true) (w0_5 : (Lit.int .i64 a0_5).wf = true) (w0_6 : (Lit.int .i64 a0_6).wf = true) (w1 : EvAt w a1 l1) (n1 : l1.length ≤ maxLen) :
    Calls Try.prog 11 #[.agg #[.int .i64 a0_0, .int .i64 a0_1, .int .i64 a0_2, .int .i64 a0_3, .int .i64 a0_4, .int .i64 a0_5, .int .i64 a0_6], .slice a1 l1.length cap1] w fun e w' => e = .returned (.bool true) ∧ Below w.heap.size w w' := by
  obtain ⟨R0, R1, R2, R3, R4, R5, R6, N, hv⟩ := pl_form ⟨a0_0, a0_1, a0_2, a0_3, a0_4, a0_5, a0_6⟩ l1
  have hn := n1
  unfold maxLen at hn
  have HE := Lib.hid w1
  clear w1 n1 w0_0 w0_1 w0_2 w0_3 w0_4 w0_5 w0_6
  go_enter Try.func11, Try.ntmps11
  go_wp2_with fail
  refine (sz_events _ _ _ _ (by omega)).mono ?_
  rintro e W1 ⟨rfl, rfl⟩
  by_cases hl : (l1.length : Int) ≤ 1048576
  · rw [if_pos hl]
    have hs := fun (ao : Option Addr) (cap : Nat) W h => rp_spec a0_0 a0_1 a0_2 a0_3 a0_4 a0_5 a0_6 ao cap l1 W h (by omega)
    have hi := fun (ao : Option Addr) (cap : Nat) W h => rp_impl a0_0 a0_1 a0_2 a0_3 a0_4 a0_5 a0_6 ao cap l1 W h (by omega)
    simp only [hv] at hs hi
    have HS := Lib.hid hs
    have HI := Lib.hid hi
    clear hs hi hv
    have hge : ¬ (1048576 - (l1.length : Int)) < 0 := by omega
    go_wp2_with fail
    refine (rn_to a0_0 a0_1 a0_2 a0_3 a0_4 a0_5 a0_6 _).mono ?_
    rintro e W2 ⟨rfl, hg⟩
    have HA := Lib.hid ((Bx.new w 44 #[.int .i64 a0_0, .int .i64 a0_1, .int .i64 a0_2, .int .i64 a0_3, .int .i64 a0_4, .int .i64 a0_5, .int .i64 a0_6]).keep hg)
    have HG := Lib.hid (grownBy_trans (gA (World.grownBy.refl w none) _) hg)
    clear hg
    go_wp2_with fail
    refine (to_events _ _ _ _ (HE.out.kept HG.out) (by omega)).mono ?_
    rintro e W3 ⟨rfl, hg, he⟩
    have HX := Lib.hid he
    have HA3 := Lib.hid (HA.out.keep hg)
    have HG3 := Lib.hid (grownBy_trans HG.out hg)
    clear hg he
    go_wp2_with fail
    refine (HS.out _ _ _ HX.out).mono ?_
    rintro e W4 ⟨rfl, hg⟩
    have HA4 := Lib.hid (HA3.out.keep hg)
    have HG4 := Lib.hid (grownBy_trans HG3.out hg)
    have HB4 := Lib.hid (Bx.new W4 25 #[.int .i64 R0, .int .i64 R1, .int .i64 R2, .int .i64 R3, .int .i64 R4, .int .i64 R5, .int .i64 R6])
    clear hg HX
    go_wp2_with fail
    refine (to_events _ _ _ _ (HE.out.kept (gA HG4.out _)) (by omega)).mono ?_
    rintro e W5 ⟨rfl, hg, he⟩
    simp only [World.size_alloc] at he
    have HX := Lib.hid he
    have HA5 := Lib.hid ((HA4.out.alloc _).keep hg)
    have HB5 := Lib.hid (HB4.out.keep hg)
    have HG5 := Lib.hid (grownBy_trans (gA HG4.out _) hg)
    clear hg he
    have c0 := HA5.out.c 0 (x := .int .i64 a0_0) rfl
    have c1 := HA5.out.c 1 (x := .int .i64 a0_1) rfl
    have c2 := HA5.out.c 2 (x := .int .i64 a0_2) rfl
    have c3 := HA5.out.c 3 (x := .int .i64 a0_3) rfl
    have c4 := HA5.out.c 4 (x := .int .i64 a0_4) rfl
    have c5 := HA5.out.c 5 (x := .int .i64 a0_5) rfl
    have c6 := HA5.out.c 6 (x := .int .i64 a0_6) rfl
    go_wp2_with fail
    refine (rn_to a0_0 a0_1 a0_2 a0_3 a0_4 a0_5 a0_6 _).mono ?_
    rintro e W6 ⟨rfl, hg⟩
    have HX6 := Lib.hid (HX.out.kept hg)
    have HB6 := Lib.hid (HB5.out.keep hg)
    have HG6 := Lib.hid (grownBy_trans HG5.out hg)
    clear hg
    clear c0 c1 c2 c3 c4 c5 c6
    go_wp2_with fail
    refine (HI.out _ _ _ HX6.out).mono ?_
    rintro e W7 ⟨rfl, hg⟩
    have HX7 := Lib.hid (HX6.out.kept hg)
    have HB7 := Lib.hid (HB6.out.keep hg)
    have HG7 := Lib.hid (grownBy_trans HG6.out hg)
    have lb := HB7.out.lt
    clear hg
    have c0 := HB7.out.c 0 (x := .int .i64 R0) rfl
    have c1 := HB7.out.c 1 (x := .int .i64 R1) rfl
    have c2 := HB7.out.c 2 (x := .int .i64 R2) rfl
    have c3 := HB7.out.c 3 (x := .int .i64 R3) rfl
    have c4 := HB7.out.c 4 (x := .int .i64 R4) rfl
    have c5 := HB7.out.c 5 (x := .int .i64 R5) rfl
    have c6 := HB7.out.c 6 (x := .int .i64 R6) rfl
    go_wp2_with fail
    refine (rn_eq R0 R1 R2 R3 R4 R5 R6 _).mono ?_
    rintro e W8 ⟨rfl, hg⟩
    have HX8 := Lib.hid ((HX7.out.kept (gA (World.grownBy.refl _ _) _)).kept hg)
    have HG8 := Lib.hid (grownBy_trans (gA HG7.out _) hg)
    clear hg lb
    clear c0 c1 c2 c3 c4 c5 c6
    go_wp2_with fail
    refine (to_events _ _ _ _ (HE.out.kept HG8.out) (by omega)).mono ?_
    rintro e W9 ⟨rfl, hg, he⟩
    have HX9 := Lib.hid (HX8.out.kept hg)
    have HY9 := Lib.hid he
    have HG9 := Lib.hid (grownBy_trans HG8.out hg)
    clear hg he
    go_wp2_with fail
    refine (eq_events _ _ _ _ _ _ HX9.out HY9.out (by omega)).mono ?_
    rintro e WW ⟨rfl, hg⟩
    have HGG := Lib.hid (grownBy_trans HG9.out hg)
    clear hg
    go_wp2_with fail
    go_ret
    exact ⟨rfl, below_new HGG.out⟩
  · rw [if_neg hl]
    go_wp2_with fail
    go_ret
    exact ⟨rfl, below_new (gA (World.grownBy.refl _ _) _)⟩

set_option maxRecDepth 100000 in
theorem lifted (os : Os) (started : os.Started) (H : Type) (enc : TypeId × Value → H) :
    ReturnsInHanded {} Try.checked os 11 .any (Rows.fnExactRenoPlaySpec.pre6 enc Try.prog Try.f11 Rows.fnExactRenoPlayRow.domain false) (Rows.fnExactRenoPlaySpec.post enc Try.prog Try.f11 false true false false) := by
  refine returnsInHanded_of_change (C := Try.checked) own started (by kernel_rfl) Try.func11
    (ChangeSpec.witness6 (enc := enc) (C := Try.checked) false ⟨#[], #[.agg #[.int .i64 0, .int .i64 0, .int .i64 0, .int .i64 0, .int .i64 0, .int .i64 0, .int .i64 0], .slice none 0 0], []⟩ 8 (by kernel_rfl) (by kernel_rfl) (by kernel_rfl) (by kernel_rfl)) ?_
  intro W base args ds gs before hval0 hW hcnd _
  have hval : ∀ (j : Nat) t v, Try.f11.params[j]? = some t → args[j]? = some v → Value.okWide Try.prog W .any base t v := hval0
  have hW' := hW
  obtain ⟨p, q, hA0, hV, rfl, hfz, hnd⟩ := hW
  have hA : DataW.TrodAll enc Try.prog W 0 (fun _ => true) true Try.f11.params.toList args.toList ds p := hA0
  rw [Try.params11] at hA hval
  obtain ⟨v0, vs0, d0, ds0, p0, q0, hargs, rfl, rfl, h0, r0⟩ := trodAll_cons hA
  obtain ⟨v1, vs1, d1, ds1, p1, q1, rfl, rfl, rfl, h1, r1⟩ := trodAll_cons r0
  obtain ⟨rfl, rfl, rfl⟩ := trodAll_nil r1
  obtain rfl : args = #[v0, v1] := by cases args; simp_all
  obtain ⟨rfl, rfl⟩ := trodVars_none hV
  have k0 := h0
  have lt0 : ∀ x ∈ p0, x.block < W.heap.size := by obtain ⟨m, hm⟩ := k0; exact DataW.trod_lt m _ _ _ hm
  obtain ⟨c0_0, c0_1, c0_2, c0_3, c0_4, c0_5, c0_6, y0_0, y0_1, y0_2, y0_3, y0_4, y0_5, y0_6, m0, rfl, rfl, rfl, hy0_0, hy0_1, hy0_2, hy0_3, hy0_4, hy0_5, hy0_6⟩ := open_agg7 Try.underlying44 (by kernel_rfl) cells44 (hval 0 44 v0 rfl rfl) h0
  obtain ⟨a0_0, e0_0, rfl, w0_0⟩ := DataW.trod_int Try.underlying2 hy0_0
  simp only [List.cons.injEq, and_true] at e0_0
  subst e0_0
  obtain ⟨a0_1, e0_1, rfl, w0_1⟩ := DataW.trod_int Try.underlying2 hy0_1
  simp only [List.cons.injEq, and_true] at e0_1
  subst e0_1
  obtain ⟨a0_2, e0_2, rfl, w0_2⟩ := DataW.trod_int Try.underlying2 hy0_2
  simp only [List.cons.injEq, and_true] at e0_2
  subst e0_2
  obtain ⟨a0_3, e0_3, rfl, w0_3⟩ := DataW.trod_int Try.underlying2 hy0_3
  simp only [List.cons.injEq, and_true] at e0_3
  subst e0_3
  obtain ⟨a0_4, e0_4, rfl, w0_4⟩ := DataW.trod_int Try.underlying2 hy0_4
  simp only [List.cons.injEq, and_true] at e0_4
  subst e0_4
  obtain ⟨a0_5, e0_5, rfl, w0_5⟩ := DataW.trod_int Try.underlying2 hy0_5
  simp only [List.cons.injEq, and_true] at e0_5
  subst e0_5
  obtain ⟨a0_6, e0_6, rfl, w0_6⟩ := DataW.trod_int Try.underlying2 hy0_6
  simp only [List.cons.injEq, and_true] at e0_6
  subst e0_6
  have k1 := h1
  have lt1 : ∀ x ∈ p1, x.block < W.heap.size := by obtain ⟨m, hm⟩ := k1; exact DataW.trod_lt m _ _ _ hm
  obtain ⟨a1, len1, cap1, rfl⟩ := okWide_slice Try.underlying50 (hval 1 50 v1 rfl rfl)
  obtain ⟨l1, e1, w1, n1⟩ : ∃ l : List Ev, l.length = len1 ∧ EvAt W a1 l ∧ l.length ≤ maxLen := by
    obtain ⟨fuel, hf⟩ := h1
    rcases open_fives Try.underlying50 Try.underlying47 cells47 ⟨rfl, rfl, rfl, rfl, rfl⟩ (by refine ⟨?_, ?_, ?_, ?_, ?_⟩ <;> kernel_rfl) hf with hcs | ⟨x, l, c, n, hcs, hl, hm, hall⟩
    · simp [Value.cells] at hcs
      obtain ⟨rfl, rfl, rfl⟩ := hcs
      exact ⟨[], rfl, .inl rfl, Nat.zero_le _⟩
    · simp [Value.cells] at hcs
      obtain ⟨rfl, rfl, rfl⟩ := hcs
      obtain ⟨ps, hlen, hps⟩ := list_of5 (P := fun i (p : Ev) => EvX W x i p) len1 (fun i hi => by
        obtain ⟨v0, v1, v2, v3, v4, y0, y1, y2, y3, y4, c0, c1, c2, c3, c4, t0, t1, t2, t3, t4⟩ := hall i hi
        obtain ⟨u0, e0, _, _⟩ := DataW.trod_int Try.underlying2 t0
        simp only [List.cons.injEq, and_true] at e0
        rw [e0] at c0
        obtain ⟨u1, e1, _, _⟩ := DataW.trod_int Try.underlying2 t1
        simp only [List.cons.injEq, and_true] at e1
        rw [e1] at c1
        obtain ⟨u2, e2, _, _⟩ := DataW.trod_int Try.underlying2 t2
        simp only [List.cons.injEq, and_true] at e2
        rw [e2] at c2
        obtain ⟨u3, e3, _, _⟩ := DataW.trod_int Try.underlying2 t3
        simp only [List.cons.injEq, and_true] at e3
        rw [e3] at c3
        obtain ⟨u4, e4, _, _⟩ := DataW.trod_int Try.underlying2 t4
        simp only [List.cons.injEq, and_true] at e4
        rw [e4] at c4
        exact ⟨⟨u0, u1, u2, u3, u4⟩, c0, c1, c2, c3, c4⟩)
      exact ⟨ps, hlen, evAt_of hps, by omega⟩
  subst e1
  clear hA0 hval0
  refine (walk a0_0 a0_1 a0_2 a0_3 a0_4 a0_5 a0_6 a1 cap1 l1 W w0_0 w0_1 w0_2 w0_3 w0_4 w0_5 w0_6 w1 n1).mono fun e W' ⟨he, bel⟩ => ?_
  subst he
  exact ⟨_, rfl, _, _, _, [], _, [], hW', trodAll_mk1 (shut_bool Try.underlying4 _), (trodAll_cons_mk (Below.trod laidOut (by kernel_rfl) (of_decide_eq_true (by kernel_rfl)) k0 bel lt0) (trodAll_cons_mk (Below.trod laidOut (by kernel_rfl) (of_decide_eq_true (by kernel_rfl)) k1 bel lt1) trodAll_mk0)), rfl, bel.frame _, fun h => by cases h⟩

theorem over : Rows.fnExactRenoPlayRow.holds Try.pinned (OpenSpec.ofChange Rows.fnExactRenoPlaySpec) :=
  OpenClaim.holds_of_wide 11 Try.f11 rfl rfl rfl rfl rfl rfl rfl ⟨rfl, rfl, rfl, rfl, rfl⟩ rfl rfl rfl rfl rfl (by kernel_rfl) Try.func11 (by kernel_rfl)
    (of_decide_eq_true (by kernel_rfl)) (by unfold Func.isWrapper; first | (rw [if_pos (by decide +kernel)]; kernel_rfl) | (rw [if_neg (by decide +kernel)]; exact ⟨rfl, rfl⟩))
    (fun os started H enc _ => lifted os started H enc)

theorem proved : Rows.FnExactRenoPlaySaid := over
end Go.Proofs.Yteicihinpjjllaa.fnExactRenoPlay
