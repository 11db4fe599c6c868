/- For every row of samples the law FnExactFilterOk answers true and leaves its argument as it was; no condition. -/
import Derived.Test.YtgaipihoonkdoaaRows
import Derived.Test.YtgaipihoonkdoaaDraw
import Derived.Test.YtgaipihoonkdoaaFlD
import Derived.WalkKit
import Derived.ProofKit
import Derived.OpenShut
import Derived.ShutString
import Derived.ChangeOld
import Derived.Below
import Derived.Lib.SmallJoins
import Derived.Deep.SlicePairs
namespace Go.Proofs.Ytgaipihoonkdoaa.fnExactFilterOk
open Go.ChangeShapes Go.WideShapes Go.ChangeAt Go.RowKit Go.Joins
open Go.ChangeMaps (open_string shut_string)
set_option linter.unusedVariables false

theorem own : ownKnob Try.prog.godebug = none := by kernel_rfl
theorem laidOut : laidOutB Try.prog = true := by kernel_rfl
theorem cells30 : Try.prog.cellsOf 30 = 2 := by kernel_rfl

theorem dummy : True := trivial

set_option maxRecDepth 100000 in
set_option maxHeartbeats 4000000 in
theorem walk (a0 : Option Addr) (cap0 : Nat) (l0 : List Rg) (w : World) (w0 : RgAt w a0 l0) (n0 : l0.length ≤ maxLen) :
    Calls Try.prog 3 #[.slice a0 l0.length cap0] w fun e w' => e = .returned (.bool true) ∧ Below w.heap.size w w' := by
  unfold maxLen at n0
  have HA := Lib.hid w0
  clear w0
  go_enter Try.func3, Try.ntmps3
  go_wp2_with fail
  refine (sz_ranges _ _ _ _ _ (by omega) rfl).mono ?_
  rintro e w1 ⟨rfl, rfl⟩
  by_cases hn : (l0.length : Int) ≤ 1048576
  · rw [if_pos hn]
    have hnn : ¬ 1048576 - (l0.length : Int) < 0 := by omega
    have hl : l0.length ≤ 1048576 := by omega
    go_wp2_with fail
    refine (to_ranges _ _ _ _ HA.out hl).mono ?_
    rintro e w2 ⟨rfl, hg, ho⟩
    have H2 := Lib.hid (And.intro hg ho)
    clear hg ho
    go_wp2_with fail
    refine (fl_spec _ _ _ _ (rg_own H2.out.2) (by omega)).mono ?_
    rintro e w3 ⟨rfl, hg⟩
    have H3 := Lib.hid (grownBy_trans H2.out.1 hg)
    clear hg
    go_wp2_with fail
    refine (to_ranges _ _ _ _ (HA.out.kept H3.out) hl).mono ?_
    rintro e w4 ⟨rfl, hg, ho⟩
    have H4 := Lib.hid (And.intro (grownBy_trans H3.out hg) ho)
    clear hg ho
    go_wp2_with fail
    refine (fl_impl _ _ _ _ (rg_own H4.out.2) (by omega)).mono ?_
    rintro e w5 ⟨rfl, hg⟩
    have H5 := Lib.hid (And.intro (grownBy_trans H4.out.1 hg) (own_kept H4.out.2 hg))
    clear hg
    generalize flOk l0 = B
    go_wp2_with fail
    refine (to_ranges _ _ _ _ (HA.out.kept H5.out.1) hl).mono ?_
    rintro e w6 ⟨rfl, hg, ho⟩
    have H6 := Lib.hid (And.intro (grownBy_trans H5.out.1 hg) (And.intro (own_kept H5.out.2 hg) ho))
    clear hg ho
    go_wp2_with fail
    refine (eq_ranges _ _ _ _ _ _ (rg_own H6.out.2.1) (rg_own H6.out.2.2) hl).mono ?_
    rintro e w7 ⟨rfl, hg⟩
    have H7 := Lib.hid (grownBy_trans H6.out.1 hg)
    clear hg
    go_wp2_with fail
    go_ret
    exact ⟨rfl, below_new H7.out⟩
  · rw [if_neg hn]
    go_wp2_with fail
    go_ret
    exact ⟨rfl, below_new (World.grownBy.refl _ _)⟩

set_option maxRecDepth 100000 in
theorem lifted (os : Os) (started : os.Started) (H : Type) (enc : TypeId × Value → H) :
    ReturnsInHanded {} Try.checked os 3 .any (Rows.fnExactFilterOkSpec.pre6 enc Try.prog Try.f3 Rows.fnExactFilterOkRow.domain false) (Rows.fnExactFilterOkSpec.post enc Try.prog Try.f3 false true false false) := by
  refine returnsInHanded_of_change (C := Try.checked) own started (by kernel_rfl) Try.func3
    (ChangeSpec.witness6 (enc := enc) (C := Try.checked) false ⟨#[], #[.slice none 0 0], []⟩ 8 (by kernel_rfl) (by kernel_rfl) (by kernel_rfl) (by kernel_rfl)) ?_
  intro W base args ds gs before hval0 hW hcnd _
  have hval : ∀ (j : Nat) t v, Try.f3.params[j]? = some t → args[j]? = some v → Value.okWide Try.prog W .any base t v := hval0
  have hW' := hW
  obtain ⟨p, q, hA0, hV, rfl, hfz, hnd⟩ := hW
  have hA : DataW.TrodAll enc Try.prog W 0 (fun _ => true) true Try.f3.params.toList args.toList ds p := hA0
  rw [Try.params3] at hA hval
  obtain ⟨v0, vs0, d0, ds0, p0, q0, hargs, rfl, rfl, h0, r0⟩ := trodAll_cons hA
  obtain ⟨rfl, rfl, rfl⟩ := trodAll_nil r0
  obtain rfl : args = #[v0] := by cases args; simp_all
  obtain ⟨rfl, rfl⟩ := trodVars_none hV
  have k0 := h0
  have lt0 : ∀ x ∈ p0, x.block < W.heap.size := by obtain ⟨m, hm⟩ := k0; exact DataW.trod_lt m _ _ _ hm
  obtain ⟨a0, len0, cap0, rfl⟩ := okWide_slice Try.underlying22 (hval 0 22 v0 rfl rfl)
  obtain ⟨l0, e0, w0, n0⟩ : ∃ l : List Rg, l.length = len0 ∧ RgAt W a0 l ∧ l.length ≤ maxLen := by
    obtain ⟨fuel, hf⟩ := h0
    rcases Deep.open_slice_pairs Try.underlying22 Try.underlying30 cells30 rfl rfl (by kernel_rfl) (by kernel_rfl) hf with ⟨hcs, _⟩ | ⟨x, l, c, m, n, V0, V1, D0, D1, P0, P1, hcs, _, hl, hm, hmm, _, hall⟩
    · simp [Value.cells] at hcs
      obtain ⟨rfl, rfl, rfl⟩ := hcs
      exact ⟨[], rfl, .inl rfl, Nat.zero_le _⟩
    · simp [Value.cells] at hcs
      obtain ⟨rfl, rfl, rfl⟩ := hcs
      have hmc : m = cap0 := by simpa using hmm
      obtain ⟨ps, hlen, hps⟩ := list_of (P := fun i (p : Rg) => W.cell? (x.add (i * 2)) = some (.int .i64 p.1) ∧ W.cell? (x.add (i * 2 + 1)) = some (.int .i64 p.2)) len0 (fun i hi => by
        obtain ⟨c0, c1, t0, t1⟩ := hall i (by omega)
        obtain ⟨u, e0, _, wu⟩ := DataW.trod_int Try.underlying2 t0
        obtain ⟨s, e1, _, ws⟩ := DataW.trod_int Try.underlying2 t1
        simp only [List.cons.injEq, and_true] at e0 e1
        rw [e0] at c0
        rw [e1] at c1
        exact ⟨(u, s), c0, c1⟩)
      exact ⟨ps, hlen, rgAt_of fun i hi => ⟨(hps i hi).1, (hps i hi).2⟩, by omega⟩
  subst e0
  clear hA0 hval0
  refine (walk a0 cap0 l0 W w0 n0).mono fun e W' ⟨he, bel⟩ => ?_
  subst he
  exact ⟨_, rfl, _, _, _, [], _, [], hW', trodAll_mk1 (shut_bool Try.underlying4 _), (trodAll_cons_mk (Below.trod laidOut (by kernel_rfl) (of_decide_eq_true (by kernel_rfl)) k0 bel lt0) trodAll_mk0), rfl, bel.frame _, fun h => by cases h⟩

theorem over : Rows.fnExactFilterOkRow.holds Try.pinned (OpenSpec.ofChange Rows.fnExactFilterOkSpec) :=
  OpenClaim.holds_of_wide 3 Try.f3 rfl rfl rfl rfl rfl rfl rfl ⟨rfl, rfl, rfl, rfl, rfl⟩ rfl rfl rfl rfl rfl (by kernel_rfl) Try.func3 (by kernel_rfl)
    (of_decide_eq_true (by kernel_rfl)) (by unfold Func.isWrapper; first | (rw [if_pos (by decide +kernel)]; kernel_rfl) | (rw [if_neg (by decide +kernel)]; exact ⟨rfl, rfl⟩))
    (fun os started H enc _ => lifted os started H enc)

theorem proved : Rows.FnExactFilterOkSaid := over
end Go.Proofs.Ytgaipihoonkdoaa.fnExactFilterOk
