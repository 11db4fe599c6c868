/- For every code the law FnLateTwice answers true and leaves its argument as it was; no condition. -/
import Derived.Test.YteicihinpjjllaaRows
import Derived.Test.YteicihinpjjllaaDraw
import Derived.Test.YteicihinpjjllaaRnG
import Derived.Test.YteicihinpjjllaaRnP
import Derived.WalkKit
import Derived.ProofKit
import Derived.OpenShut
import Derived.ShutString
import Derived.ChangeOld
import Derived.Below
import Derived.Lib.SmallJoins
namespace Go.Proofs.Yteicihinpjjllaa.fnLateTwice
open Go.ChangeShapes Go.WideShapes Go.ChangeAt Go.RowKit Go.Joins
open Go.ChangeMaps (open_string shut_string)
set_option linter.unusedVariables false

theorem own : ownKnob Try.prog.godebug = none := by kernel_rfl
theorem laidOut : laidOutB Try.prog = true := by kernel_rfl


def IsRow (k : IntKind) (w : World) (a : Option Addr) (len cap : Nat) (zs : List Int) : Prop :=
  (a = none ∧ len = 0 ∧ cap = 0 ∧ zs = []) ∨
  ∃ x, a = some x ∧ len ≤ cap ∧ cap ≤ maxLen ∧ zs.length = cap ∧ (∀ i, i < zs.length → w.cell? (x.add i) = some (.int k (zs.getD i 0))) ∧ ∀ n ∈ zs, (Lit.int k n).wf = true

theorem dummy10 : True := trivial

set_option maxRecDepth 100000 in
set_option maxHeartbeats 4000000 in
theorem walk (a0 : Option Addr) (len0 cap0 : Nat) (z0 : List Int) (w : World) (w0 : IsRow .u8 w a0 len0 cap0 z0) :
    Calls Try.prog 7 #[.slice a0 len0 cap0] w fun e w' => e = .returned (.bool true) ∧ Below w.heap.size w w' := by
  have hc := code_of w0
  clear w0
  have HC := Lib.hid hc
  clear hc
  by_cases hbig : 1048576 < len0
  · go_enter Try.func7, Try.ntmps7
    go_wp2_with (go_at_call 12; refine (big_any _ _ _ _).mono ?_; rintro e w' ⟨rfl, rfl⟩)
    go_ret
    exact ⟨rfl, Below.refl _ _⟩
  · go_enter Try.func7, Try.ntmps7
    go_wp2_with (go_at_call 12; refine (big_any _ _ _ _).mono ?_; rintro e w' ⟨rfl, rfl⟩)
    refine (draw_step _ _ _ _ HC.out).mono ?_
    rintro e w1 ⟨m, y, l, p, d, o, g, k, n1, a1, f, x, rfl, hg⟩
    have HG1 := Lib.hid hg
    have HC1 := Lib.hid (HC.out.kept hg)
    clear hg
    obtain ⟨R0, R1, R2, R3, R4, R5, R6, b, hv, ht, _⟩ := st_ex m y l p d o g 3 0 0 f x
    have hi := fun W => rn_stepI m y l p d o g 3 0 0 f x W
    have hs := fun W => rn_stepS m y l p d o g 3 0 0 f x W
    simp only [hv] at hi hs
    have HI := Lib.hid hi
    have HS := Lib.hid hs
    have HT := Lib.hid ht
    clear hi hs ht hv
    go_wp2_with fail
    refine (HI.out _).mono ?_
    rintro e w2 ⟨rfl, hg⟩
    have he := (Bx.new ((w1.alloc (.cells #[.int .i64 m, .int .i64 y, .int .i64 l, .int .i64 p, .int .i64 d, .int .i64 o, .int .i64 g] 25)).alloc (.cells #[.int .i64 k, .int .i64 n1, .int .i64 a1, .int .i64 f, .int .i64 x] 27)) 27 #[.int .i64 3, .int .i64 0, .int .i64 0, .int .i64 f, .int .i64 x]).keep hg
    simp only [World.size_alloc] at he
    have H2 := Lib.hid (And.intro (grownBy_trans (gA (gA (gA HG1.out _) _) _) hg) (And.intro ((((Bx.new w1 25 #[.int .i64 m, .int .i64 y, .int .i64 l, .int .i64 p, .int .i64 d, .int .i64 o, .int .i64 g]).alloc (.cells #[.int .i64 k, .int .i64 n1, .int .i64 a1, .int .i64 f, .int .i64 x] 27)).alloc (.cells #[.int .i64 3, .int .i64 0, .int .i64 0, .int .i64 f, .int .i64 x] 27)).keep hg) he))
    clear hg he
    have ca0 : w2.cell? ⟨w1.heap.size, 0, none⟩ = some (.int .i64 m) := H2.out.2.1.c 0 rfl
    have ca1 : w2.cell? ⟨w1.heap.size, 1, none⟩ = some (.int .i64 y) := H2.out.2.1.c 1 rfl
    have ca2 : w2.cell? ⟨w1.heap.size, 2, none⟩ = some (.int .i64 l) := H2.out.2.1.c 2 rfl
    have ca3 : w2.cell? ⟨w1.heap.size, 3, none⟩ = some (.int .i64 p) := H2.out.2.1.c 3 rfl
    have ca4 : w2.cell? ⟨w1.heap.size, 4, none⟩ = some (.int .i64 d) := H2.out.2.1.c 4 rfl
    have ca5 : w2.cell? ⟨w1.heap.size, 5, none⟩ = some (.int .i64 o) := H2.out.2.1.c 5 rfl
    have ca6 : w2.cell? ⟨w1.heap.size, 6, none⟩ = some (.int .i64 g) := H2.out.2.1.c 6 rfl
    have ce0 : w2.cell? ⟨(w1.heap.size + 1 + 1), 0, none⟩ = some (.int .i64 3) := H2.out.2.2.c 0 rfl
    have ce1 : w2.cell? ⟨(w1.heap.size + 1 + 1), 1, none⟩ = some (.int .i64 0) := H2.out.2.2.c 1 rfl
    have ce2 : w2.cell? ⟨(w1.heap.size + 1 + 1), 2, none⟩ = some (.int .i64 0) := H2.out.2.2.c 2 rfl
    have ce3 : w2.cell? ⟨(w1.heap.size + 1 + 1), 3, none⟩ = some (.int .i64 f) := H2.out.2.2.c 3 rfl
    have ce4 : w2.cell? ⟨(w1.heap.size + 1 + 1), 4, none⟩ = some (.int .i64 x) := H2.out.2.2.c 4 rfl
    have lt2 := H2.out.2.2.lt
    have lt1 : w1.heap.size < w2.heap.size := by omega
    go_wp2_with fail
    refine (HS.out _).mono ?_
    rintro e w3 ⟨rfl, hg⟩
    have H3 := Lib.hid (And.intro (grownBy_trans (gA H2.out.1 _) hg) (And.intro ((H2.out.2.1.alloc _).keep hg) (And.intro ((H2.out.2.2.alloc _).keep hg) ((Bx.new w2 25 #[.int .i64 R0, .int .i64 R1, .int .i64 R2, .int .i64 R3, .int .i64 R4, .int .i64 R5, .int .i64 R6]).keep hg))))
    clear hg ca0 ca1 ca2 ca3 ca4 ca5 ca6 ce0 ce1 ce2 ce3 ce4
    have ca0 : w3.cell? ⟨w1.heap.size, 0, none⟩ = some (.int .i64 m) := H3.out.2.1.c 0 rfl
    have ca1 : w3.cell? ⟨w1.heap.size, 1, none⟩ = some (.int .i64 y) := H3.out.2.1.c 1 rfl
    have ca2 : w3.cell? ⟨w1.heap.size, 2, none⟩ = some (.int .i64 l) := H3.out.2.1.c 2 rfl
    have ca3 : w3.cell? ⟨w1.heap.size, 3, none⟩ = some (.int .i64 p) := H3.out.2.1.c 3 rfl
    have ca4 : w3.cell? ⟨w1.heap.size, 4, none⟩ = some (.int .i64 d) := H3.out.2.1.c 4 rfl
    have ca5 : w3.cell? ⟨w1.heap.size, 5, none⟩ = some (.int .i64 o) := H3.out.2.1.c 5 rfl
    have ca6 : w3.cell? ⟨w1.heap.size, 6, none⟩ = some (.int .i64 g) := H3.out.2.1.c 6 rfl
    have ce0 : w3.cell? ⟨(w1.heap.size + 1 + 1), 0, none⟩ = some (.int .i64 3) := H3.out.2.2.1.c 0 rfl
    have ce1 : w3.cell? ⟨(w1.heap.size + 1 + 1), 1, none⟩ = some (.int .i64 0) := H3.out.2.2.1.c 1 rfl
    have ce2 : w3.cell? ⟨(w1.heap.size + 1 + 1), 2, none⟩ = some (.int .i64 0) := H3.out.2.2.1.c 2 rfl
    have ce3 : w3.cell? ⟨(w1.heap.size + 1 + 1), 3, none⟩ = some (.int .i64 f) := H3.out.2.2.1.c 3 rfl
    have ce4 : w3.cell? ⟨(w1.heap.size + 1 + 1), 4, none⟩ = some (.int .i64 x) := H3.out.2.2.1.c 4 rfl
    have cn0 : w3.cell? ⟨w2.heap.size, 0, none⟩ = some (.int .i64 R0) := H3.out.2.2.2.c 0 rfl
    have cn1 : w3.cell? ⟨w2.heap.size, 1, none⟩ = some (.int .i64 R1) := H3.out.2.2.2.c 1 rfl
    have cn2 : w3.cell? ⟨w2.heap.size, 2, none⟩ = some (.int .i64 R2) := H3.out.2.2.2.c 2 rfl
    have cn3 : w3.cell? ⟨w2.heap.size, 3, none⟩ = some (.int .i64 R3) := H3.out.2.2.2.c 3 rfl
    have cn4 : w3.cell? ⟨w2.heap.size, 4, none⟩ = some (.int .i64 R4) := H3.out.2.2.2.c 4 rfl
    have cn5 : w3.cell? ⟨w2.heap.size, 5, none⟩ = some (.int .i64 R5) := H3.out.2.2.2.c 5 rfl
    have cn6 : w3.cell? ⟨w2.heap.size, 6, none⟩ = some (.int .i64 R6) := H3.out.2.2.2.c 6 rfl
    have lt3 := H3.out.2.2.2.lt
    have lt4 : w1.heap.size < w3.heap.size := by omega
    have lt5 : w1.heap.size + 1 + 1 < w3.heap.size := by omega
    cases b
    · go_wp2_with fail
      all_goals
        go_ret
        exact ⟨rfl, below_new (gA H3.out.1 _)⟩
    · obtain ⟨g1, g2, hR⟩ := HT.out rfl
      have hF := step_facts m y l p d o g 3 0 0 f x g1 g2
      rw [hR] at hF
      obtain ⟨b1, b2, b3, b4, b5, b6, b7, b8, hp⟩ := rn_of g1
      obtain ⟨e1, e2, e3, e4, e5, e6, e7⟩ := ev_of g2
      dsimp only at b1 b2 b3 b4 b5 b6 b7 b8 hp e1 e2 e3 e4 e5 e6 e7
      obtain ⟨f1, f3, f2, f5, f6, f7⟩ := hF.late rfl
      have f8 := hF.m
      have hok := hF.ok
      dsimp only at f1 f2 f3 f5 f6 f7 f8
      have hst : rnStep ⟨R0, R1, R2, R3, R4, R5, R6⟩ ⟨3, 0, 0, f, x⟩ = ⟨R0, R1, R2, R3, R4, R5, R6⟩ := by
        have h := hF.late rfl
        rw [f1, f2, f3, f5, f6, f7, f8]
        show rnSet ⟨m, m, hlf f m, 1, 0, x, 0⟩ = _
        exact if_pos (by show m < hlf f m; have := hlf_bd (f := f) ⟨b1, b2⟩ ⟨e2, e3⟩; omega)
      have hi := fun W => rn_stepI R0 R1 R2 R3 R4 R5 R6 3 0 0 f x W
      have hv2 : stV ⟨R0, R1, R2, R3, R4, R5, R6⟩ ⟨3, 0, 0, f, x⟩ = .tuple #[.agg #[.int .i64 R0, .int .i64 R1, .int .i64 R2, .int .i64 R3, .int .i64 R4, .int .i64 R5, .int .i64 R6], .bool true] := by
        have hb : stB ⟨R0, R1, R2, R3, R4, R5, R6⟩ ⟨3, 0, 0, f, x⟩ = true := by show (rnOk _ && evOk _) = true; rw [hok, g2]; rfl
        unfold stV stR
        rw [hb, if_pos rfl, hst]
        rfl
      simp only [hv2] at hi
      have HI2 := Lib.hid hi
      have hl := (hlf_bd (f := f) ⟨b1, b2⟩ ⟨e2, e3⟩).1
      rw [← f2] at hl
      have f9 : R0 = R1 := by omega
      have w2a : IntKind.i64.wrap (2 * R0) = 2 * R0 := wr (by omega)
      have d1 : decide (2 * R0 ≤ R2) = true := decide_eq_true (by omega)
      have d0 : 2 * R0 ≤ R2 := by omega
      clear hF hR g1 g2 hp hi hv2 hst hok hl f1 f2 f3 f5 f6 f7 f8 e1 b7 b8
      subst f9
      go_wp2_with fail
      refine (HI2.out _).mono ?_
      rintro e w4 ⟨rfl, hg⟩
      have hd := (Bx.new w3 25 #[.int .i64 R0, .int .i64 R0, .int .i64 R2, .int .i64 R3, .int .i64 R4, .int .i64 R5, .int .i64 R6]).keep hg
      have H4 := Lib.hid (And.intro (grownBy_trans (gA H3.out.1 _) hg) (And.intro ((H3.out.2.2.2.alloc _).keep hg) hd))
      clear hg hd ca0 ca1 ca2 ca3 ca4 ca5 ca6 ce0 ce1 ce2 ce3 ce4 cn0 cn1 cn2 cn3 cn4 cn5 cn6
      have cn0 : w4.cell? ⟨w2.heap.size, 0, none⟩ = some (.int .i64 R0) := H4.out.2.1.c 0 rfl
      have cn1 : w4.cell? ⟨w2.heap.size, 1, none⟩ = some (.int .i64 R0) := H4.out.2.1.c 1 rfl
      have cn2 : w4.cell? ⟨w2.heap.size, 2, none⟩ = some (.int .i64 R2) := H4.out.2.1.c 2 rfl
      have cn3 : w4.cell? ⟨w2.heap.size, 3, none⟩ = some (.int .i64 R3) := H4.out.2.1.c 3 rfl
      have cn4 : w4.cell? ⟨w2.heap.size, 4, none⟩ = some (.int .i64 R4) := H4.out.2.1.c 4 rfl
      have cn5 : w4.cell? ⟨w2.heap.size, 5, none⟩ = some (.int .i64 R5) := H4.out.2.1.c 5 rfl
      have cn6 : w4.cell? ⟨w2.heap.size, 6, none⟩ = some (.int .i64 R6) := H4.out.2.1.c 6 rfl
      have cd0 : w4.cell? ⟨w3.heap.size, 0, none⟩ = some (.int .i64 R0) := H4.out.2.2.c 0 rfl
      have cd1 : w4.cell? ⟨w3.heap.size, 1, none⟩ = some (.int .i64 R0) := H4.out.2.2.c 1 rfl
      have cd2 : w4.cell? ⟨w3.heap.size, 2, none⟩ = some (.int .i64 R2) := H4.out.2.2.c 2 rfl
      have cd3 : w4.cell? ⟨w3.heap.size, 3, none⟩ = some (.int .i64 R3) := H4.out.2.2.c 3 rfl
      have cd4 : w4.cell? ⟨w3.heap.size, 4, none⟩ = some (.int .i64 R4) := H4.out.2.2.c 4 rfl
      have cd5 : w4.cell? ⟨w3.heap.size, 5, none⟩ = some (.int .i64 R5) := H4.out.2.2.c 5 rfl
      have cd6 : w4.cell? ⟨w3.heap.size, 6, none⟩ = some (.int .i64 R6) := H4.out.2.2.c 6 rfl
      have lt6 := H4.out.2.1.lt
      have lt7 := H4.out.2.2.lt
      go_wp2_with fail
      all_goals
        go_ret
        exact ⟨rfl, below_new (by repeat (first | with_reducible refine gA ?_ _ | with_reducible exact H4.out.1))⟩

set_option maxRecDepth 100000 in
theorem lifted (os : Os) (started : os.Started) (H : Type) (enc : TypeId × Value → H) :
    ReturnsInHanded {} Try.checked os 7 .any (Rows.fnLateTwiceSpec.pre6 enc Try.prog Try.f7 Rows.fnLateTwiceRow.domain false) (Rows.fnLateTwiceSpec.post enc Try.prog Try.f7 false true false false) := by
  refine returnsInHanded_of_change (C := Try.checked) own started (by kernel_rfl) Try.func7
    (ChangeSpec.witness6 (enc := enc) (C := Try.checked) false ⟨#[], #[.slice none 0 0], []⟩ 8 (by kernel_rfl) (by kernel_rfl) (by kernel_rfl) (by kernel_rfl)) ?_
  intro W base args ds gs before hval0 hW hcnd _
  have hval : ∀ (j : Nat) t v, Try.f7.params[j]? = some t → args[j]? = some v → Value.okWide Try.prog W .any base t v := hval0
  have hW' := hW
  obtain ⟨p, q, hA0, hV, rfl, hfz, hnd⟩ := hW
  have hA : DataW.TrodAll enc Try.prog W 0 (fun _ => true) true Try.f7.params.toList args.toList ds p := hA0
  rw [Try.params7] at hA hval
  obtain ⟨v0, vs0, d0, ds0, p0, q0, hargs, rfl, rfl, h0, r0⟩ := trodAll_cons hA
  obtain ⟨rfl, rfl, rfl⟩ := trodAll_nil r0
  obtain rfl : args = #[v0] := by cases args; simp_all
  obtain ⟨rfl, rfl⟩ := trodVars_none hV
  have k0 := h0
  have lt0 : ∀ x ∈ p0, x.block < W.heap.size := by obtain ⟨m, hm⟩ := k0; exact DataW.trod_lt m _ _ _ hm
  obtain ⟨a0, len0, cap0, rfl⟩ := okWide_slice Try.underlying22 (hval 0 22 v0 rfl rfl)
  obtain ⟨z0, w0⟩ : ∃ zs, IsRow .u8 W a0 len0 cap0 zs := by
    obtain ⟨fuel, hf⟩ := h0
    rcases open_ints Try.underlying22 Try.underlying5 (by kernel_rfl) hf with ⟨hcs, _⟩ | ⟨x, l, c, zs, hcs, _, hl, hm, hz, _, hcell, hwz⟩
    · simp [Value.cells] at hcs
      obtain ⟨rfl, rfl, rfl⟩ := hcs
      exact ⟨[], .inl ⟨rfl, rfl, rfl, rfl⟩⟩
    · simp [Value.cells] at hcs
      obtain ⟨rfl, rfl, rfl⟩ := hcs
      exact ⟨zs, .inr ⟨_, rfl, hl, hm, by simpa using hz, hcell, hwz⟩⟩
  clear hA0 hval0
  refine (walk a0 len0 cap0 z0 W w0).mono fun e W' ⟨he, bel⟩ => ?_
  subst he
  exact ⟨_, rfl, _, _, _, [], _, [], hW', trodAll_mk1 (shut_bool Try.underlying4 _), (trodAll_cons_mk (Below.trod laidOut (by kernel_rfl) (of_decide_eq_true (by kernel_rfl)) k0 bel lt0) trodAll_mk0), rfl, bel.frame _, fun h => by cases h⟩

theorem over : Rows.fnLateTwiceRow.holds Try.pinned (OpenSpec.ofChange Rows.fnLateTwiceSpec) :=
  OpenClaim.holds_of_wide 7 Try.f7 rfl rfl rfl rfl rfl rfl rfl ⟨rfl, rfl, rfl, rfl, rfl⟩ rfl rfl rfl rfl rfl (by kernel_rfl) Try.func7 (by kernel_rfl)
    (of_decide_eq_true (by kernel_rfl)) (by unfold Func.isWrapper; first | (rw [if_pos (by decide +kernel)]; kernel_rfl) | (rw [if_neg (by decide +kernel)]; exact ⟨rfl, rfl⟩))
    (fun os started H enc _ => lifted os started H enc)

theorem proved : Rows.FnLateTwiceSaid := over
end Go.Proofs.Yteicihinpjjllaa.fnLateTwice
