/- For every two addresses and every segment the law FnExactTcpBytes answers true and leaves its arguments as they were; no condition. -/
import Derived.Test.YtlapeoffmmejjaaRows
import Derived.Test.YtlapeoffmmejjaaDraw
import Derived.Test.YtlapeoffmmejjaaDrawB
import Derived.Test.YtlapeoffmmejjaaOct
import Derived.Test.YtlapeoffmmejjaaTcpS
import Derived.Test.YtlapeoffmmejjaaAgg
import Derived.WalkKit
import Derived.ProofKit
import Derived.OpenShut
import Derived.ShutString
import Derived.ChangeOld
import Derived.Below
import Derived.Lib.SmallJoins
import Derived.Deep.SlicePairs
namespace Go.Proofs.Ytlapeoffmmejjaa.fnExactTcpBytes
open Go.ChangeShapes Go.WideShapes Go.ChangeAt Go.RowKit Go.Joins
open Go.ChangeMaps (open_string shut_string)
set_option linter.unusedVariables false

theorem own : ownKnob Try.prog.godebug = none := by kernel_rfl
theorem laidOut : laidOutB Try.prog = true := by kernel_rfl
theorem cells40 : Try.prog.cellsOf 40 = 8 := by kernel_rfl
theorem cells105 : Try.prog.cellsOf 105 = 2 := by kernel_rfl

theorem dummy : True := trivial

set_option maxRecDepth 100000 in
set_option maxHeartbeats 2000000 in
theorem walk (a0 : Int) (a1 : Int) (a2_0 : Int) (a2_1 : Int) (a2_2 : Int) (a2_3 : Int) (a2_4 : Int) (a2_5 : Int) (a2_6 : Option Addr) (cap2_6 : Nat) (l2_6 : List Rg) (a2_7 : ByteArray) (w : World) (w0 : (Lit.int .i64 a0).wf = true) (w1 : (Lit.int .i64 a1).wf = true) (w2_0 : (Lit.int .i64 a2_0).wf = true) (w2_1 : (Lit.int .i64 a2_1).wf = true) (w2_2 : (Lit.int .i64 a2_2).wf = true) (w2_3 : (Lit.int .i64 a2_3).wf = true) (w2_4 : (Lit.int .i64 a2_4).wf = true) (w2_5 : (Lit.int .i64 a2_5).wf = true) (w2_6 : RgAt w a2_6 l2_6) (n2_6 : l2_6.length ≤ maxLen) (w2_7 : a2_7.size ≤ maxLen) :
    Calls Try.prog 7 #[.int .i64 a0, .int .i64 a1, .agg #[.int .i64 a2_0, .int .i64 a2_1, .int .i64 a2_2, .int .i64 a2_3, .int .i64 a2_4, .int .i64 a2_5, .slice a2_6 l2_6.length cap2_6, .string a2_7]] w fun e w' => e = .returned (.bool true) ∧ Below w.heap.size w w' := by
  obtain ⟨b, rfl⟩ : ∃ l : List UInt8, a2_7 = ⟨l.toArray⟩ := ⟨a2_7.data.toList, ba_of rfl⟩
  rw [str_size] at w2_7
  have hl0 := n2_6
  unfold maxLen at w2_7 hl0
  have HL := Lib.hid (And.intro w2_7 (And.intro hl0 n2_6))
  have HM := Lib.hid (And.intro (tcp_new w (.int .i64 a2_0) (.int .i64 a2_1) (.int .i64 a2_2) (.int .i64 a2_3) (.int .i64 a2_4) (.int .i64 a2_5) (.slice a2_6 l2_6.length cap2_6) (.string ⟨b.toArray⟩) 40) (w2_6.kept (World.grownBy_alloc w (.cells #[.int .i64 a2_0, .int .i64 a2_1, .int .i64 a2_2, .int .i64 a2_3, .int .i64 a2_4, .int .i64 a2_5, .slice a2_6 l2_6.length cap2_6, .string ⟨b.toArray⟩] 40) none)))
  clear w0 w1 w2_0 w2_1 w2_2 w2_3 w2_4 w2_5 w2_6 w2_7 hl0 n2_6
  go_enter Try.func7, Try.ntmps7
  go_wp2_with fail
  refine (sz_tcp a2_0 a2_1 a2_2 a2_3 a2_4 a2_5 a2_6 cap2_6 l2_6 b _ (by have := HL.out; omega) (by have := HL.out; omega)).mono ?_
  rintro e w1 ⟨⟨r, rfl, hr⟩, hg⟩
  have h1 := HM.out.1.kept hg
  have k1 := HM.out.2.kept hg
  have H1 := Lib.hid (And.intro h1 (And.intro k1 hr))
  clear hg hr HM k1
  obtain ⟨c0, c1, c2, c3, c4, c5, c6, c7⟩ := tcp_facts h1
  clear h1
  by_cases hr : r < 0
  · go_wp2_with fail
    go_ret
    exact ⟨rfl, below_new H1.out.1.grown⟩
  · have HB := Lib.hid (H1.out.2.2 (by omega))
    go_wp2_with fail
    refine (to_tcp a2_0 a2_1 a2_2 a2_3 a2_4 a2_5 a2_6 cap2_6 l2_6 b _ H1.out.2.1 HB.out).mono ?_
    rintro e w2 ⟨q, rfl, hg, hq⟩
    have H2 := Lib.hid (And.intro (H1.out.1.kept hg) (And.intro (H1.out.2.1.kept hg) hq))
    clear hg hq H1 c0 c1 c2 c3 c4 c5 c6 c7
    obtain ⟨c0, c1, c2, c3, c4, c5, c6, c7⟩ := tcp_facts H2.out.1
    go_wp2_with fail
    refine (tcp_spec a0 a1 a2_0 a2_1 a2_2 a2_3 a2_4 a2_5 _ _ l2_6 b _ H2.out.2.2 HL.out.2.2).mono ?_
    rintro e w3 ⟨rfl, hg⟩
    have H3 := Lib.hid (And.intro (H2.out.1.kept hg) (H2.out.2.1.kept hg))
    clear hg H2 c0 c1 c2 c3 c4 c5 c6 c7
    obtain ⟨c0, c1, c2, c3, c4, c5, c6, c7⟩ := tcp_facts H3.out.1
    obtain ⟨d, hd⟩ : ∃ d, d = tcpL a0 a1 a2_0 a2_1 a2_2 a2_3 a2_4 a2_5 l2_6 b := ⟨_, rfl⟩
    have HD := Lib.hid hd
    rw [← hd]
    clear hd
    go_wp2_with fail
    refine (to_tcp a2_0 a2_1 a2_2 a2_3 a2_4 a2_5 a2_6 cap2_6 l2_6 b _ H3.out.2 HB.out).mono ?_
    rintro e w4 ⟨q4, rfl, hg, hq⟩
    have hm4 := H3.out.1.kept hg
    have hx4 := tcp_new w4 (.int .i64 a2_0) (.int .i64 a2_1) (.int .i64 a2_2) (.int .i64 a2_3) (.int .i64 a2_4) (.int .i64 a2_5) (.slice (some ⟨q4, 0, none⟩) l2_6.length l2_6.length) (.string ⟨b.toArray⟩) 26
    have hlt : w.heap.size < w4.heap.size := cell_in (tcp_facts hm4).1
    have H4 := Lib.hid (And.intro (hm4.kept hx4.grown) (And.intro ((H3.out.2.kept hg).kept hx4.grown) (And.intro (hq.kept hx4.grown) (hx4.base hm4.grown))))
    clear hg H3 hm4 hx4 hq c0 c1 c2 c3 c4 c5 c6 c7
    go_wp2_with fail
    generalize w4.alloc (.cells #[.int .i64 a2_0, .int .i64 a2_1, .int .i64 a2_2, .int .i64 a2_3, .int .i64 a2_4, .int .i64 a2_5, .slice (some ⟨q4, 0, none⟩) l2_6.length l2_6.length, .string ⟨b.toArray⟩] 26) = w5 at *
    refine (tcp_impl a0 a1 a2_0 a2_1 a2_2 a2_3 a2_4 a2_5 _ _ l2_6 b _ H4.out.2.2.1).mono ?_
    rintro e w6 ⟨rfl, hg⟩
    rw [← HD.out]
    have H6 := Lib.hid (And.intro (H4.out.1.kept hg) (And.intro (H4.out.2.1.kept hg) (And.intro (H4.out.2.2.1.kept hg) (H4.out.2.2.2.kept hg))))
    clear hg H4
    obtain ⟨c0, c1, c2, c3, c4, c5, c6, c7⟩ := tcp_facts H6.out.1
    obtain ⟨x0, x1, x2, x3, x4, x5, x6, x7⟩ := tcp_facts H6.out.2.2.2
    go_wp2_with fail
    have HR6 := Lib.hid (H6.out.2.1.kept (grownBy_drew (a := w6) (r := none)))
    go_region_held3 (fun w' => w'.cell? ⟨w.heap.size, 0, none⟩ = some (.int .i64 a2_0) ∧ w'.cell? ⟨w.heap.size, 1, none⟩ = some (.int .i64 a2_1) ∧ w'.cell? ⟨w.heap.size, 2, none⟩ = some (.int .i64 a2_2) ∧ w'.cell? ⟨w.heap.size, 3, none⟩ = some (.int .i64 a2_3) ∧ w'.cell? ⟨w.heap.size, 4, none⟩ = some (.int .i64 a2_4) ∧ w'.cell? ⟨w.heap.size, 5, none⟩ = some (.int .i64 a2_5) ∧ w'.cell? ⟨w.heap.size, 6, none⟩ = some (.slice a2_6 l2_6.length cap2_6) ∧ w'.cell? ⟨w.heap.size, 7, none⟩ = some (.string ⟨b.toArray⟩) ∧ w'.cell? ⟨w4.heap.size, 0, none⟩ = some (.int .i64 a2_0) ∧ w'.cell? ⟨w4.heap.size, 1, none⟩ = some (.int .i64 a2_1) ∧ w'.cell? ⟨w4.heap.size, 2, none⟩ = some (.int .i64 a2_2) ∧ w'.cell? ⟨w4.heap.size, 3, none⟩ = some (.int .i64 a2_3) ∧ w'.cell? ⟨w4.heap.size, 4, none⟩ = some (.int .i64 a2_4) ∧ w'.cell? ⟨w4.heap.size, 5, none⟩ = some (.int .i64 a2_5) ∧ w'.cell? ⟨w4.heap.size, 6, none⟩ = some (.slice (some ⟨q4, 0, none⟩) l2_6.length l2_6.length) ∧ w'.cell? ⟨w4.heap.size, 7, none⟩ = some (.string ⟨b.toArray⟩) ∧ w6.grownBy w' none) ((refine ⟨by first | assumption | (simp [*]; done), by first | assumption | (simp [*]; done), by first | assumption | (simp [*]; done), by first | assumption | (simp [*]; done), by first | assumption | (simp [*]; done), by first | assumption | (simp [*]; done), by first | assumption | (simp [*]; done), by first | assumption | (simp [*]; done), by first | assumption | (simp [*]; done), by first | assumption | (simp [*]; done), by first | assumption | (simp [*]; done), by first | assumption | (simp [*]; done), by first | assumption | (simp [*]; done), by first | assumption | (simp [*]; done), by first | assumption | (simp [*]; done), by first | assumption | (simp [*]; done), by first | assumption | exact grownBy_drew | exact grownBy_trans (by assumption) (by assumption)⟩))
      (first
        | (go_at_call 21; refine (to_tcp a2_0 a2_1 a2_2 a2_3 a2_4 a2_5 a2_6 cap2_6 l2_6 b _ HR6.out HB.out).mono ?_; rintro e w7 ⟨qq, rfl, hg, hq⟩; have qg : w6.grownBy w7 none := grownBy_trans grownBy_drew hg; have HQ := Lib.hid (And.intro hq (H6.out.2.2.1.kept qg)); clear hq; obtain ⟨q0, q1, q2, q3, q4, q5, q6, q7⟩ := tcp_facts (H6.out.1.kept qg); obtain ⟨q8, q9, q10, q11, q12, q13, q14, q15⟩ := tcp_facts (H6.out.2.2.2.kept qg))
        | (go_at_call 22; refine (eq_tcp a2_0 a2_1 a2_2 a2_3 a2_4 a2_5 _ _ _ _ l2_6 b _ HQ.out.2 HQ.out.1 HB.out).mono ?_; rintro e w8 ⟨rfl, hg⟩; have sg : w6.grownBy w8 none := grownBy_trans (by assumption) hg; obtain ⟨s0, s1, s2, s3, s4, s5, s6, s7⟩ := tcp_facts (H6.out.1.kept sg); obtain ⟨s8, s9, s10, s11, s12, s13, s14, s15⟩ := tcp_facts (H6.out.2.2.2.kept sg)))
    rename_i hH
    have HG := Lib.hid (grownBy_trans H6.out.1.grown hH.2.2.2.2.2.2.2.2.2.2.2.2.2.2.2.2)
    go_wp2_with fail
    go_ret
    exact ⟨rfl, below_new HG.out⟩

set_option maxRecDepth 100000 in
theorem lifted (os : Os) (started : os.Started) (H : Type) (enc : TypeId × Value → H) :
    ReturnsInHanded {} Try.checked os 7 .any (Rows.fnExactTcpBytesSpec.pre6 enc Try.prog Try.f7 Rows.fnExactTcpBytesRow.domain false) (Rows.fnExactTcpBytesSpec.post enc Try.prog Try.f7 false true false false) := by
  refine returnsInHanded_of_change (C := Try.checked) own started (by kernel_rfl) Try.func7
    (ChangeSpec.witness6 (enc := enc) (C := Try.checked) false ⟨#[], #[.int .i64 0, .int .i64 0, .agg #[.int .i64 0, .int .i64 0, .int .i64 0, .int .i64 0, .int .i64 0, .int .i64 0, .slice none 0 0, .string ByteArray.empty]], []⟩ 8 (by kernel_rfl) (by kernel_rfl) (by kernel_rfl) (by kernel_rfl)) ?_
  intro W base args ds gs before hval0 hW hcnd _
  have hval : ∀ (j : Nat) t v, Try.f7.params[j]? = some t → args[j]? = some v → Value.okWide Try.prog W .any base t v := hval0
  have hW' := hW
  obtain ⟨p, q, hA0, hV, rfl, hfz, hnd⟩ := hW
  have hA : DataW.TrodAll enc Try.prog W 0 (fun _ => true) true Try.f7.params.toList args.toList ds p := hA0
  rw [Try.params7] at hA hval
  obtain ⟨v0, vs0, d0, ds0, p0, q0, hargs, rfl, rfl, h0, r0⟩ := trodAll_cons hA
  obtain ⟨v1, vs1, d1, ds1, p1, q1, rfl, rfl, rfl, h1, r1⟩ := trodAll_cons r0
  obtain ⟨v2, vs2, d2, ds2, p2, q2, rfl, rfl, rfl, h2, r2⟩ := trodAll_cons r1
  obtain ⟨rfl, rfl, rfl⟩ := trodAll_nil r2
  obtain rfl : args = #[v0, v1, v2] := by cases args; simp_all
  obtain ⟨rfl, rfl⟩ := trodVars_none hV
  have k0 := h0
  have lt0 : ∀ x ∈ p0, x.block < W.heap.size := by obtain ⟨m, hm⟩ := k0; exact DataW.trod_lt m _ _ _ hm
  obtain ⟨a0, rfl, rfl, rfl, w0⟩ := open_int Try.underlying2 (hval 0 2 v0 rfl rfl) h0
  have k1 := h1
  have lt1 : ∀ x ∈ p1, x.block < W.heap.size := by obtain ⟨m, hm⟩ := k1; exact DataW.trod_lt m _ _ _ hm
  obtain ⟨a1, rfl, rfl, rfl, w1⟩ := open_int Try.underlying2 (hval 1 2 v1 rfl rfl) h1
  have k2 := h2
  have lt2 : ∀ x ∈ p2, x.block < W.heap.size := by obtain ⟨m, hm⟩ := k2; exact DataW.trod_lt m _ _ _ hm
  obtain ⟨c2_0, c2_1, c2_2, c2_3, c2_4, c2_5, c2_6, c2_7, y2_0, y2_1, y2_2, y2_3, y2_4, y2_5, y2_6, y2_7, m2, rfl, rfl, rfl, hy2_0, hy2_1, hy2_2, hy2_3, hy2_4, hy2_5, hy2_6, hy2_7⟩ := open_agg8 Try.underlying40 (by kernel_rfl) cells40 (hval 2 40 v2 rfl rfl) h2
  obtain ⟨a2_0, e2_0, rfl, w2_0⟩ := DataW.trod_int Try.underlying2 hy2_0
  simp only [List.cons.injEq, and_true] at e2_0
  subst e2_0
  obtain ⟨a2_1, e2_1, rfl, w2_1⟩ := DataW.trod_int Try.underlying2 hy2_1
  simp only [List.cons.injEq, and_true] at e2_1
  subst e2_1
  obtain ⟨a2_2, e2_2, rfl, w2_2⟩ := DataW.trod_int Try.underlying2 hy2_2
  simp only [List.cons.injEq, and_true] at e2_2
  subst e2_2
  obtain ⟨a2_3, e2_3, rfl, w2_3⟩ := DataW.trod_int Try.underlying2 hy2_3
  simp only [List.cons.injEq, and_true] at e2_3
  subst e2_3
  obtain ⟨a2_4, e2_4, rfl, w2_4⟩ := DataW.trod_int Try.underlying2 hy2_4
  simp only [List.cons.injEq, and_true] at e2_4
  subst e2_4
  obtain ⟨a2_5, e2_5, rfl, w2_5⟩ := DataW.trod_int Try.underlying2 hy2_5
  simp only [List.cons.injEq, and_true] at e2_5
  subst e2_5
  obtain ⟨a2_6, len2_6, cap2_6, e2_6⟩ := slice_form Try.underlying38 hy2_6
  simp only [List.cons.injEq, and_true] at e2_6
  subst e2_6
  obtain ⟨l2_6, e2_6, w2_6, n2_6⟩ : ∃ l : List Rg, l.length = len2_6 ∧ RgAt W a2_6 l ∧ l.length ≤ maxLen := by
    rcases Deep.open_slice_pairs Try.underlying38 Try.underlying105 cells105 rfl rfl (by kernel_rfl) (by kernel_rfl) hy2_6 with ⟨hcs, _⟩ | ⟨x, l, c, m, n, V0, V1, D0, D1, P0, P1, hcs, _, hl, hm, hmm, _, hall⟩
    · simp at hcs
      obtain ⟨rfl, rfl, rfl⟩ := hcs
      exact ⟨[], rfl, .inl rfl, Nat.zero_le _⟩
    · simp at hcs
      obtain ⟨rfl, rfl, rfl⟩ := hcs
      have hmc : m = cap2_6 := by simpa using hmm
      obtain ⟨ps, hlen, hps⟩ := list_of (P := fun i (p : Rg) => W.cell? (x.add (i * 2)) = some (.int .i64 p.1) ∧ W.cell? (x.add (i * 2 + 1)) = some (.int .i64 p.2)) len2_6 (fun i hi => by
        obtain ⟨c0, c1, t0, t1⟩ := hall i (by omega)
        obtain ⟨u, e0, _, wu⟩ := DataW.trod_int Try.underlying2 t0
        obtain ⟨s, e1, _, ws⟩ := DataW.trod_int Try.underlying2 t1
        simp only [List.cons.injEq, and_true] at e0 e1
        rw [e0] at c0
        rw [e1] at c1
        exact ⟨(u, s), c0, c1⟩)
      exact ⟨ps, hlen, rgAt_of fun i hi => ⟨(hps i hi).1, (hps i hi).2⟩, by omega⟩
  subst e2_6
  obtain ⟨a2_7, e2_7, rfl, w2_7⟩ := DataW.trod_string Try.underlying9 hy2_7
  simp only [List.cons.injEq, and_true] at e2_7
  subst e2_7
  clear hA0 hval0
  refine (walk a0 a1 a2_0 a2_1 a2_2 a2_3 a2_4 a2_5 a2_6 cap2_6 l2_6 a2_7 W w0 w1 w2_0 w2_1 w2_2 w2_3 w2_4 w2_5 w2_6 n2_6 w2_7).mono fun e W' ⟨he, bel⟩ => ?_
  subst he
  exact ⟨_, rfl, _, _, _, [], _, [], hW', trodAll_mk1 (shut_bool Try.underlying4 _), (trodAll_cons_mk (Below.trod laidOut (by kernel_rfl) (of_decide_eq_true (by kernel_rfl)) k0 bel lt0) (trodAll_cons_mk (Below.trod laidOut (by kernel_rfl) (of_decide_eq_true (by kernel_rfl)) k1 bel lt1) (trodAll_cons_mk (Below.trod laidOut (by kernel_rfl) (of_decide_eq_true (by kernel_rfl)) k2 bel lt2) trodAll_mk0))), rfl, bel.frame _, fun h => by cases h⟩

theorem over : Rows.fnExactTcpBytesRow.holds Try.pinned (OpenSpec.ofChange Rows.fnExactTcpBytesSpec) :=
  OpenClaim.holds_of_wide 7 Try.f7 rfl rfl rfl rfl rfl rfl rfl ⟨rfl, rfl, rfl, rfl, rfl⟩ rfl rfl rfl rfl rfl (by kernel_rfl) Try.func7 (by kernel_rfl)
    (of_decide_eq_true (by kernel_rfl)) (by unfold Func.isWrapper; first | (rw [if_pos (by decide +kernel)]; kernel_rfl) | (rw [if_neg (by decide +kernel)]; exact ⟨rfl, rfl⟩))
    (fun os started H enc _ => lifted os started H enc)

theorem proved : Rows.FnExactTcpBytesSaid := over
end Go.Proofs.Ytlapeoffmmejjaa.fnExactTcpBytes
