/- For every board the law FnExactBoardOk answers true and leaves its arguments as they were; no condition. -/
import Derived.Test.YthohcgcdjaebbaaRows
import Derived.Test.YthohcgcdjaebbaaDraw
import Derived.Test.YthohcgcdjaebbaaBdL
import Derived.WalkKit
import Derived.ProofKit
import Derived.OpenShut
import Derived.ShutString
import Derived.ChangeOld
import Derived.Below
import Derived.Lib.SmallJoins
import Derived.Deep.SlicePairs
namespace Go.Proofs.Ythohcgcdjaebbaa.fnExactBoardOk
open Go.ChangeShapes Go.WideShapes Go.ChangeAt Go.RowKit Go.Joins
open Go.ChangeMaps (open_string shut_string)
set_option linter.unusedVariables false

theorem own : ownKnob Try.prog.godebug = none := by kernel_rfl
theorem laidOut : laidOutB Try.prog = true := by kernel_rfl
theorem cells46 : Try.prog.cellsOf 46 = 3 := by kernel_rfl
theorem cells75 : Try.prog.cellsOf 75 = 2 := by kernel_rfl

theorem dummy : True := trivial

set_option maxRecDepth 100000 in
set_option maxHeartbeats 4000000 in
theorem walk (a0_0 : Int) (a0_1 : Int) (a0_2 : Option Addr) (cap0_2 : Nat) (l0_2 : List Rg) (w : World) (w0_0 : (Lit.int .i64 a0_0).wf = true) (w0_1 : (Lit.int .i64 a0_1).wf = true) (w0_2 : RgAt w a0_2 l0_2) (n0_2 : l0_2.length ≤ maxLen) :
    Calls Try.prog 8 #[.agg #[.int .i64 a0_0, .int .i64 a0_1, .slice a0_2 l0_2.length cap0_2]] w fun e w' => e = .returned (.bool true) ∧ Below w.heap.size w w' := by
  have hl0 := n0_2
  unfold maxLen at hl0
  have HM := Lib.hid (And.intro (bd_new w (.int .i64 a0_0) (.int .i64 a0_1) (.slice a0_2 l0_2.length cap0_2) 46) (And.intro (w0_2.kept (World.grownBy_alloc w (.cells #[.int .i64 a0_0, .int .i64 a0_1, .slice a0_2 l0_2.length cap0_2] 46) none)) hl0))
  clear w0_0 w0_1 w0_2 hl0 n0_2
  go_enter Try.func8, Try.ntmps8
  go_wp2_with fail
  refine (sz_board a0_0 a0_1 a0_2 cap0_2 l0_2 _ HM.out.2.2).mono ?_
  rintro e w1 ⟨⟨r, rfl, hr⟩, hg⟩
  have H1 := Lib.hid (And.intro (HM.out.1.kept hg) (And.intro (HM.out.2.1.kept hg) hr))
  clear hg hr
  obtain ⟨b0, b1, b2⟩ := bd_facts H1.out.1
  by_cases hr : r < 0
  · go_wp2_with fail
    go_ret
    exact ⟨rfl, below_new H1.out.1.grown⟩
  · have HB := Lib.hid (H1.out.2.2 (by omega))
    go_wp2_with fail
    refine (to_board a0_0 a0_1 a0_2 cap0_2 l0_2 _ H1.out.2.1 HB.out).mono ?_
    rintro e w2 ⟨q, rfl, hg, ho⟩
    have H2 := Lib.hid (And.intro (H1.out.1.kept hg) (And.intro (H1.out.2.1.kept hg) ho))
    clear hg ho H1 b0 b1 b2
    obtain ⟨b0, b1, b2⟩ := bd_facts H2.out.1
    go_wp2_with fail
    refine (bd_ok_spec _ _ _ _ _ _ H2.out.2.2.at HM.out.2.2).mono ?_
    rintro e w3 ⟨rfl, hg⟩
    have H3 := Lib.hid (And.intro (H2.out.1.kept hg) (H2.out.2.1.kept hg))
    clear hg H2 b0 b1 b2
    obtain ⟨b0, b1, b2⟩ := bd_facts H3.out.1
    obtain ⟨d, hd⟩ : ∃ d, d = bdOk a0_0 a0_1 l0_2 := ⟨_, rfl⟩
    have HD := Lib.hid hd
    rw [← hd]
    clear hd
    go_wp2_with fail
    refine (to_board a0_0 a0_1 a0_2 cap0_2 l0_2 _ H3.out.2 HB.out).mono ?_
    rintro e w4 ⟨q4, rfl, hg, ho⟩
    have hm4 := H3.out.1.kept hg
    have hx4 := bd_new w4 (.int .i64 a0_0) (.int .i64 a0_1) (.slice (some ⟨q4, 0, none⟩) l0_2.length l0_2.length) 26
    have hlt : w.heap.size < w4.heap.size := cell_in (bd_facts hm4).1
    have H4 := Lib.hid (And.intro (hm4.kept hx4.grown) (And.intro ((H3.out.2.kept hg).kept hx4.grown) (And.intro (ho.at.kept hx4.grown) (hx4.base hm4.grown))))
    clear hg H3 hm4 hx4 ho b0 b1 b2
    go_wp2_with fail
    generalize w4.alloc (.cells #[.int .i64 a0_0, .int .i64 a0_1, .slice (some ⟨q4, 0, none⟩) l0_2.length l0_2.length] 26) = w5 at *
    refine (bd_ok_impl _ _ _ _ _ _ H4.out.2.2.1).mono ?_
    rintro e w6 ⟨rfl, hg⟩
    rw [← HD.out]
    have H6 := Lib.hid (And.intro (H4.out.1.kept hg) (And.intro (H4.out.2.1.kept hg) (And.intro (H4.out.2.2.1.kept hg) (H4.out.2.2.2.kept hg))))
    clear hg H4
    obtain ⟨b0, b1, b2⟩ := bd_facts H6.out.1
    obtain ⟨x0, x1, x2⟩ := bd_facts H6.out.2.2.2
    go_wp2_with fail
    have HR6 := Lib.hid (H6.out.2.1.kept (grownBy_drew (a := w6) (r := none)))
    go_region_held3 (fun w' => w'.cell? ⟨w.heap.size, 0, none⟩ = some (.int .i64 a0_0) ∧ w'.cell? ⟨w.heap.size, 1, none⟩ = some (.int .i64 a0_1) ∧ w'.cell? ⟨w.heap.size, 2, none⟩ = some (.slice a0_2 l0_2.length cap0_2) ∧ w'.cell? ⟨w4.heap.size, 0, none⟩ = some (.int .i64 a0_0) ∧ w'.cell? ⟨w4.heap.size, 1, none⟩ = some (.int .i64 a0_1) ∧ w'.cell? ⟨w4.heap.size, 2, none⟩ = some (.slice (some ⟨q4, 0, none⟩) l0_2.length l0_2.length) ∧ w6.grownBy w' none) ((refine ⟨by first | assumption | (simp [*]; done), by first | assumption | (simp [*]; done), by first | assumption | (simp [*]; done), by first | assumption | (simp [*]; done), by first | assumption | (simp [*]; done), by first | assumption | (simp [*]; done), by first | assumption | exact grownBy_drew | exact grownBy_trans (by assumption) (by assumption)⟩))
      (first
        | (go_at_call 35; refine (to_board a0_0 a0_1 a0_2 cap0_2 l0_2 _ HR6.out HB.out).mono ?_; rintro e w7 ⟨qq, rfl, hg, hq⟩; have qg : w6.grownBy w7 none := grownBy_trans grownBy_drew hg; have HQ := Lib.hid (And.intro hq.at (H6.out.2.2.1.kept qg)); clear hq; obtain ⟨q0, q1, q2⟩ := bd_facts (H6.out.1.kept qg); obtain ⟨q8, q9, q10⟩ := bd_facts (H6.out.2.2.2.kept qg))
        | (go_at_call 36; refine (eq_board a0_0 a0_1 _ _ _ _ l0_2 _ HQ.out.2 HQ.out.1 HB.out).mono ?_; rintro e w8 ⟨rfl, hg⟩; have sg : w6.grownBy w8 none := grownBy_trans (by assumption) hg; obtain ⟨s0, s1, s2⟩ := bd_facts (H6.out.1.kept sg); obtain ⟨s8, s9, s10⟩ := bd_facts (H6.out.2.2.2.kept sg)))
    rename_i hH
    have HG := Lib.hid (grownBy_trans H6.out.1.grown hH.2.2.2.2.2.2)
    go_wp2_with fail
    go_ret
    exact ⟨rfl, below_new HG.out⟩

set_option maxRecDepth 100000 in
theorem lifted (os : Os) (started : os.Started) (H : Type) (enc : TypeId × Value → H) :
    ReturnsInHanded {} Try.checked os 8 .any (Rows.fnExactBoardOkSpec.pre6 enc Try.prog Try.f8 Rows.fnExactBoardOkRow.domain false) (Rows.fnExactBoardOkSpec.post enc Try.prog Try.f8 false true false false) := by
  refine returnsInHanded_of_change (C := Try.checked) own started (by kernel_rfl) Try.func8
    (ChangeSpec.witness6 (enc := enc) (C := Try.checked) false ⟨#[], #[.agg #[.int .i64 0, .int .i64 0, .slice none 0 0]], []⟩ 8 (by kernel_rfl) (by kernel_rfl) (by kernel_rfl) (by kernel_rfl)) ?_
  intro W base args ds gs before hval0 hW hcnd _
  have hval : ∀ (j : Nat) t v, Try.f8.params[j]? = some t → args[j]? = some v → Value.okWide Try.prog W .any base t v := hval0
  have hW' := hW
  obtain ⟨p, q, hA0, hV, rfl, hfz, hnd⟩ := hW
  have hA : DataW.TrodAll enc Try.prog W 0 (fun _ => true) true Try.f8.params.toList args.toList ds p := hA0
  rw [Try.params8] at hA hval
  obtain ⟨v0, vs0, d0, ds0, p0, q0, hargs, rfl, rfl, h0, r0⟩ := trodAll_cons hA
  obtain ⟨rfl, rfl, rfl⟩ := trodAll_nil r0
  obtain rfl : args = #[v0] := by cases args; simp_all
  obtain ⟨rfl, rfl⟩ := trodVars_none hV
  have k0 := h0
  have lt0 : ∀ x ∈ p0, x.block < W.heap.size := by obtain ⟨m, hm⟩ := k0; exact DataW.trod_lt m _ _ _ hm
  obtain ⟨c0_0, c0_1, c0_2, y0_0, y0_1, y0_2, m0, rfl, rfl, rfl, hy0_0, hy0_1, hy0_2⟩ := open_agg3 Try.underlying46 (by kernel_rfl) cells46 (hval 0 46 v0 rfl rfl) h0
  obtain ⟨a0_0, e0_0, rfl, w0_0⟩ := DataW.trod_int Try.underlying2 hy0_0
  simp only [List.cons.injEq, and_true] at e0_0
  subst e0_0
  obtain ⟨a0_1, e0_1, rfl, w0_1⟩ := DataW.trod_int Try.underlying2 hy0_1
  simp only [List.cons.injEq, and_true] at e0_1
  subst e0_1
  obtain ⟨a0_2, len0_2, cap0_2, e0_2⟩ := slice_form Try.underlying44 hy0_2
  simp only [List.cons.injEq, and_true] at e0_2
  subst e0_2
  obtain ⟨l0_2, e0_2, w0_2, n0_2⟩ : ∃ l : List Rg, l.length = len0_2 ∧ RgAt W a0_2 l ∧ l.length ≤ maxLen := by
    rcases Deep.open_slice_pairs Try.underlying44 Try.underlying75 cells75 rfl rfl (by kernel_rfl) (by kernel_rfl) hy0_2 with ⟨hcs, _⟩ | ⟨x, l, c, m, n, V0, V1, D0, D1, P0, P1, hcs, _, hl, hm, hmm, _, hall⟩
    · simp at hcs
      obtain ⟨rfl, rfl, rfl⟩ := hcs
      exact ⟨[], rfl, .inl rfl, Nat.zero_le _⟩
    · simp at hcs
      obtain ⟨rfl, rfl, rfl⟩ := hcs
      have hmc : m = cap0_2 := by simpa using hmm
      obtain ⟨ps, hlen, hps⟩ := list_of (P := fun i (p : Rg) => W.cell? (x.add (i * 2)) = some (.int .i64 p.1) ∧ W.cell? (x.add (i * 2 + 1)) = some (.int .i64 p.2)) len0_2 (fun i hi => by
        obtain ⟨c0, c1, t0, t1⟩ := hall i (by omega)
        obtain ⟨u, e0, _, wu⟩ := DataW.trod_int Try.underlying2 t0
        obtain ⟨s, e1, _, ws⟩ := DataW.trod_int Try.underlying2 t1
        simp only [List.cons.injEq, and_true] at e0 e1
        rw [e0] at c0
        rw [e1] at c1
        exact ⟨(u, s), c0, c1⟩)
      exact ⟨ps, hlen, rgAt_of fun i hi => ⟨(hps i hi).1, (hps i hi).2⟩, by omega⟩
  subst e0_2
  clear hA0 hval0
  refine (walk a0_0 a0_1 a0_2 cap0_2 l0_2 W w0_0 w0_1 w0_2 n0_2).mono fun e W' ⟨he, bel⟩ => ?_
  subst he
  exact ⟨_, rfl, _, _, _, [], _, [], hW', trodAll_mk1 (shut_bool Try.underlying4 _), (trodAll_cons_mk (Below.trod laidOut (by kernel_rfl) (of_decide_eq_true (by kernel_rfl)) k0 bel lt0) trodAll_mk0), rfl, bel.frame _, fun h => by cases h⟩

theorem over : Rows.fnExactBoardOkRow.holds Try.pinned (OpenSpec.ofChange Rows.fnExactBoardOkSpec) :=
  OpenClaim.holds_of_wide 8 Try.f8 rfl rfl rfl rfl rfl rfl rfl ⟨rfl, rfl, rfl, rfl, rfl⟩ rfl rfl rfl rfl rfl (by kernel_rfl) Try.func8 (by kernel_rfl)
    (of_decide_eq_true (by kernel_rfl)) (by unfold Func.isWrapper; first | (rw [if_pos (by decide +kernel)]; kernel_rfl) | (rw [if_neg (by decide +kernel)]; exact ⟨rfl, rfl⟩))
    (fun os started H enc _ => lifted os started H enc)

theorem proved : Rows.FnExactBoardOkSaid := over
end Go.Proofs.Ythohcgcdjaebbaa.fnExactBoardOk
