/- For every row of fragments the law FnExactWhole answers true and leaves its argument as it was; no condition. -/
import Derived.Test.YtjgmkjbeagcgfaaRows
import Derived.Test.YtjgmkjbeagcgfaaDraw
import Derived.Test.YtjgmkjbeagcgfaaFrZ
import Derived.WalkKit
import Derived.ProofKit
import Derived.OpenShut
import Derived.ShutString
import Derived.ChangeOld
import Derived.Below
import Derived.Lib.SmallJoins
namespace Go.Proofs.Ytjgmkjbeagcgfaa.fnExactWhole
open Go.ChangeShapes Go.WideShapes Go.ChangeAt Go.RowKit Go.Joins
open Go.ChangeMaps (open_string shut_string)
set_option linter.unusedVariables false

theorem own : ownKnob Try.prog.godebug = none := by kernel_rfl
theorem laidOut : laidOutB Try.prog = true := by kernel_rfl
theorem cells23 : Try.prog.cellsOf 23 = 3 := by kernel_rfl

theorem dummy : True := trivial

set_option maxRecDepth 100000 in
set_option maxHeartbeats 1500000 in
theorem walk (a0 : Option Addr) (cap0 : Nat) (l0 : List Fg) (w : World) (w0 : FgAt w a0 l0) (n0 : l0.length ≤ maxLen) (m0 : ∀ x ∈ l0, x.d.length ≤ maxLen) :
    Calls Try.prog 5 #[.slice a0 l0.length cap0] w fun e w' => e = .returned (.bool true) ∧ Below w.heap.size w w' := by
  unfold maxLen at n0 m0
  have HA := Lib.hid (And.intro w0 m0)
  clear w0 m0
  go_enter Try.func5, Try.ntmps5
  go_wp2_with fail
  refine (sz_fgs _ _ _ _ HA.out.1 n0 HA.out.2).mono ?_
  rintro e w1 ⟨q, rfl, hg, hq⟩
  by_cases h0 : q < 0
  · have HG := Lib.hid hg
    clear hg hq
    go_wp2_with fail
    go_ret
    exact ⟨rfl, below_new HG.out⟩
  · obtain ⟨hn, hm⟩ := hq (by omega)
    have H1 := Lib.hid hg
    have HM := Lib.hid hm
    clear hg hq hm n0
    go_wp2_with fail
    refine (to_fgs _ _ _ _ (HA.out.1.kept H1.out) hn).mono ?_
    rintro e w2 ⟨rfl, hg, hp⟩
    have H2 := Lib.hid (And.intro (grownBy_trans H1.out hg) (fgAt_own hp rfl))
    clear hg hp
    go_wp2_with fail
    refine (whole_S _ _ _ _ H2.out.2 (by omega) HA.out.2).mono ?_
    rintro e w3 ⟨rfl, hg⟩
    have H3 := Lib.hid (grownBy_trans H2.out.1 hg)
    clear hg
    go_wp2_with fail
    refine (to_fgs _ _ _ _ (HA.out.1.kept H3.out) hn).mono ?_
    rintro e w4 ⟨rfl, hg, hp⟩
    have H4 := Lib.hid (And.intro (grownBy_trans H3.out hg) (fgAt_own hp rfl))
    clear hg hp
    go_wp2_with fail
    refine (whole_I _ _ _ _ H4.out.2 (by omega) HA.out.2).mono ?_
    rintro e w5 ⟨rfl, hg⟩
    have H5 := Lib.hid (And.intro (grownBy_trans H4.out.1 hg) (H4.out.2.kept hg))
    clear hg
    generalize whS l0 = WS at *
    generalize whOk l0 = WO at *
    go_wp2_with fail
    refine (to_fgs _ _ _ _ (HA.out.1.kept H5.out.1) hn).mono ?_
    rintro e w6 ⟨rfl, hg, hp⟩
    have H6 := Lib.hid (And.intro (grownBy_trans H5.out.1 hg) (And.intro (H5.out.2.kept hg) (fgAt_own hp rfl)))
    clear hg hp
    go_wp2_with fail
    refine (eq_fgs _ _ _ _ _ _ H6.out.2.1 H6.out.2.2 hn).mono ?_
    rintro e w7 ⟨rfl, hg⟩
    have H7 := Lib.hid (grownBy_trans H6.out.1 hg)
    clear hg
    go_wp2_with fail
    go_ret
    exact ⟨rfl, below_new H7.out⟩

set_option maxRecDepth 100000 in
theorem lifted (os : Os) (started : os.Started) (H : Type) (enc : TypeId × Value → H) :
    ReturnsInHanded {} Try.checked os 5 .any (Rows.fnExactWholeSpec.pre6 enc Try.prog Try.f5 Rows.fnExactWholeRow.domain false) (Rows.fnExactWholeSpec.post enc Try.prog Try.f5 false true false false) := by
  refine returnsInHanded_of_change (C := Try.checked) own started (by kernel_rfl) Try.func5
    (ChangeSpec.witness6 (enc := enc) (C := Try.checked) false ⟨#[], #[.slice none 0 0], []⟩ 8 (by kernel_rfl) (by kernel_rfl) (by kernel_rfl) (by kernel_rfl)) ?_
  intro W base args ds gs before hval0 hW hcnd _
  have hval : ∀ (j : Nat) t v, Try.f5.params[j]? = some t → args[j]? = some v → Value.okWide Try.prog W .any base t v := hval0
  have hW' := hW
  obtain ⟨p, q, hA0, hV, rfl, hfz, hnd⟩ := hW
  have hA : DataW.TrodAll enc Try.prog W 0 (fun _ => true) true Try.f5.params.toList args.toList ds p := hA0
  rw [Try.params5] at hA hval
  obtain ⟨v0, vs0, d0, ds0, p0, q0, hargs, rfl, rfl, h0, r0⟩ := trodAll_cons hA
  obtain ⟨rfl, rfl, rfl⟩ := trodAll_nil r0
  obtain rfl : args = #[v0] := by cases args; simp_all
  obtain ⟨rfl, rfl⟩ := trodVars_none hV
  have k0 := h0
  have lt0 : ∀ x ∈ p0, x.block < W.heap.size := by obtain ⟨m, hm⟩ := k0; exact DataW.trod_lt m _ _ _ hm
  obtain ⟨a0, len0, cap0, rfl⟩ := okWide_slice Try.underlying35 (hval 0 35 v0 rfl rfl)
  obtain ⟨l0, e0, w0, n0, m0⟩ : ∃ l : List Fg, l.length = len0 ∧ FgAt W a0 l ∧ l.length ≤ maxLen ∧ ∀ x ∈ l, x.d.length ≤ maxLen := by
    obtain ⟨fuel, hf⟩ := h0
    rcases open_fgs Try.underlying35 Try.underlying23 cells23 ⟨rfl, rfl, rfl⟩ (by refine ⟨?_, ?_, ?_⟩ <;> kernel_rfl) hf with hcs | ⟨x, l, c, n, hcs, hl, hm, hall⟩
    · simp [Value.cells] at hcs
      obtain ⟨rfl, rfl, rfl⟩ := hcs
      exact ⟨[], rfl, .inl rfl, Nat.zero_le _, by simp⟩
    · simp [Value.cells] at hcs
      obtain ⟨rfl, rfl, rfl⟩ := hcs
      obtain ⟨ps, hlen, hps⟩ := list_of (P := fun i (p : Fg) => W.cell? (x.add (i * 3)) = some (.int .i64 p.f) ∧ W.cell? (x.add (i * 3 + 1)) = some (.bool p.m) ∧ W.cell? (x.add (i * 3 + 2)) = some (.string ⟨p.d.toArray⟩) ∧ p.d.length ≤ maxLen) len0 (fun i hi => by
        obtain ⟨v0, v1, v2, y0, y1, y2, c0, c1, c2, t0, t1, t2⟩ := hall i hi
        obtain ⟨u, e0, _, wu⟩ := DataW.trod_int Try.underlying2 t0
        obtain ⟨m, e1, _⟩ := DataW.trod_bool Try.underlying4 t1
        obtain ⟨s, e2, _, ws⟩ := DataW.trod_string Try.underlying9 t2
        simp only [List.cons.injEq, and_true] at e0 e1 e2
        rw [e0] at c0
        rw [e1] at c1
        rw [e2] at c2
        exact ⟨⟨u, m, s.data.toList⟩, c0, c1, by simpa using c2, ws⟩)
      refine ⟨ps, hlen, fgAt_of fun i hi => ⟨(hps i hi).1, (hps i hi).2.1, (hps i hi).2.2.1⟩, by omega, fun x hx => ?_⟩
      obtain ⟨i, hi, rfl⟩ := List.getElem_of_mem hx
      exact (hps i hi).2.2.2
  subst e0
  clear hA0 hval0
  refine (walk a0 cap0 l0 W w0 n0 m0).mono fun e W' ⟨he, bel⟩ => ?_
  subst he
  exact ⟨_, rfl, _, _, _, [], _, [], hW', trodAll_mk1 (shut_bool Try.underlying4 _), (trodAll_cons_mk (Below.trod laidOut (by kernel_rfl) (of_decide_eq_true (by kernel_rfl)) k0 bel lt0) trodAll_mk0), rfl, bel.frame _, fun h => by cases h⟩

theorem over : Rows.fnExactWholeRow.holds Try.pinned (OpenSpec.ofChange Rows.fnExactWholeSpec) :=
  OpenClaim.holds_of_wide 5 Try.f5 rfl rfl rfl rfl rfl rfl rfl ⟨rfl, rfl, rfl, rfl, rfl⟩ rfl rfl rfl rfl rfl (by kernel_rfl) Try.func5 (by kernel_rfl)
    (of_decide_eq_true (by kernel_rfl)) (by unfold Func.isWrapper; first | (rw [if_pos (by decide +kernel)]; kernel_rfl) | (rw [if_neg (by decide +kernel)]; exact ⟨rfl, rfl⟩))
    (fun os started H enc _ => lifted os started H enc)

theorem proved : Rows.FnExactWholeSaid := over
end Go.Proofs.Ytjgmkjbeagcgfaa.fnExactWhole
