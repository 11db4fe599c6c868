/- For every argument the law FnCubic answers true and leaves its arguments as they were; no condition. -/
import Derived.Test.YtaemjijkolnheaaRows
import Derived.Test.YtaemjijkolnheaaDraw
import Derived.Test.YtaemjijkolnheaaCbD
import Derived.WalkKit
import Derived.ProofKit
import Derived.OpenShut
import Derived.ShutString
import Derived.ChangeOld
import Derived.Below
import Derived.Lib.SmallJoins
namespace Go.Proofs.Ytaemjijkolnheaa.fnCubic
open Go.ChangeShapes Go.WideShapes Go.ChangeAt Go.RowKit Go.Joins
open Go.ChangeMaps (open_string shut_string)
set_option linter.unusedVariables false

theorem own : ownKnob Try.prog.godebug = none := by kernel_rfl
theorem laidOut : laidOutB Try.prog = true := by kernel_rfl


def IsRow (k : IntKind) (w : World) (a : Option Addr) (len cap : Nat) (zs : List Int) : Prop :=
  (a = none ∧ len = 0 ∧ cap = 0 ∧ zs = []) ∨
  ∃ x, a = some x ∧ len ≤ cap ∧ cap ≤ maxLen ∧ zs.length = cap ∧ (∀ i, i < zs.length → w.cell? (x.add i) = some (.int k (zs.getD i 0))) ∧ ∀ n ∈ zs, (Lit.int k n).wf = true

theorem cw_mono {w t k : Int} : cwin w t k ≤ cwin w (t + 1) k := by
  have h := cb_mono (show t - k ≤ t + 1 - k by omega)
  unfold cwin
  split <;> split <;> omega
theorem cw_at {w k : Int} (h : 0 ≤ w) : cwin w k k = w := by
  unfold cwin
  rw [show k - k = 0 by omega, show cb 0 = 0 from rfl]
  simp
  omega
theorem cw_up {w t k : Int} (h0 : 0 ≤ w) (h : k ≤ t) : w ≤ cwin w t k := by
  have h1 := cb_nonneg (show 0 ≤ t - k by omega)
  unfold cwin
  split <;> omega
theorem cw_down {w t k : Int} (h0 : 0 ≤ w) (h : t ≤ k) : cwin w t k ≤ w := by
  have h1 := cb_nonneg (show 0 ≤ -(t - k) by omega)
  rw [cb_neg] at h1
  unfold cwin
  split <;> omega
theorem wis_of {w t v k : Int} (h : WIs w t v) (hk : KIs w k) (h0 : 0 ≤ w ∧ w ≤ 1000000000 ∧ 0 ≤ t ∧ t ≤ 10000) : v = cwin w t k := by
  rcases h with ⟨a, b, c, d, x, hx, rfl⟩ | ⟨h, _⟩
  · rw [hx.uniq (kis_cr hk ⟨a, b⟩)]
  · exact absurd h0 h

set_option maxRecDepth 100000 in
set_option maxHeartbeats 4000000 in
theorem walk (a0 : Option Addr) (len0 cap0 : Nat) (z0 : List Int) (w : World) (w0 : IsRow .u8 w a0 len0 cap0 z0) :
    Calls Try.prog 4 #[.slice a0 len0 cap0] w fun e w' => e = .returned (.bool true) ∧ Below w.heap.size w w' := by
  have hc := code_of w0
  clear w0
  have HC := Lib.hid hc
  clear hc
  by_cases hbig : 1048576 < len0
  · go_enter Try.func4, Try.ntmps4
    go_wp2_with (go_at_call 9; refine (big_any _ _ _ _).mono ?_; rintro e w' ⟨rfl, rfl⟩)
    go_ret
    exact ⟨rfl, Below.refl _ _⟩
  · go_enter Try.func4, Try.ntmps4
    go_wp2_with (go_at_call 9; refine (big_any _ _ _ _).mono ?_; rintro e w' ⟨rfl, rfl⟩)
    refine (draw_w _ _ _ _ HC.out).mono ?_
    rintro e w1 ⟨w0, t, _, _, rfl, hg⟩
    have HCD := Lib.hid (HC.out.kept hg)
    have HG := Lib.hid hg
    clear hg
    go_wp2_with fail
    refine (cb_wI _ _ _).mono ?_
    rintro e w2 ⟨⟨v, rfl, hv⟩, hg⟩
    have HCE := Lib.hid (HCD.out.kept hg)
    have HG2 := Lib.hid (grownBy_trans HG.out hg)
    have HV := Lib.hid hv
    clear hg hv
    go_wp2_with fail
    refine (draw_k _ _ _ _ HCE.out).mono ?_
    rintro e w3 ⟨x, _, rfl, hg⟩
    have HG3 := Lib.hid (grownBy_trans HG2.out hg)
    clear hg
    go_wp2_with fail
    refine (cb_wS _ _ _).mono ?_
    rintro e w4 ⟨⟨v2, rfl, hv⟩, rfl⟩
    obtain rfl := HV.out.uniq hv
    clear hv
    go_wp2_with fail
    refine (cb_kI _ _).mono ?_
    rintro e w5 ⟨⟨y, rfl, hy⟩, hg⟩
    have HY := Lib.hid hy
    have HG5 := Lib.hid (grownBy_trans HG3.out hg)
    clear hg hy
    go_wp2_with fail
    refine (cb_kS _ _).mono ?_
    rintro e w6 ⟨⟨z, rfl, hz⟩, rfl⟩
    obtain rfl := HY.out.uniq hz
    clear hz
    by_cases hneg : v < 0
    · have k1 : decide (v < 0) = true := decide_eq_true hneg
      go_wp2_with fail
      refine (cb_wS _ _ _).mono ?_
      rintro e w7 ⟨⟨v2, rfl, hv⟩, rfl⟩
      obtain rfl := HV.out.uniq hv
      clear hv
      go_wp2_with fail
      refine (cb_kI _ _).mono ?_
      rintro e w8 ⟨⟨y2, rfl, hy⟩, hg⟩
      obtain rfl := HY.out.uniq hy
      have HG8 := Lib.hid (grownBy_trans HG5.out hg)
      clear hg hy
      go_wp2_with fail
      refine (cb_kS _ _).mono ?_
      rintro e w9 ⟨⟨z, rfl, hz⟩, rfl⟩
      obtain rfl := HY.out.uniq hz
      clear hz
      go_wp2_with fail
      go_ret
      exact ⟨rfl, below_new HG8.out⟩
    · have k1 : decide (v < 0) = false := decide_eq_false hneg
      obtain ⟨a0, a1, a2, a3⟩ : 0 ≤ w0 ∧ w0 ≤ 1000000000 ∧ 0 ≤ t ∧ t ≤ 10000 := by
        rcases HV.out with ⟨a, b, c, d, _⟩ | ⟨_, h⟩
        · exact ⟨a, b, c, d⟩
        · exact absurd (by omega) hneg
      go_wp2_with fail
      refine (cb_kI _ _).mono ?_
      rintro e w7 ⟨⟨k, rfl, hk⟩, hg⟩
      have HG7 := Lib.hid (grownBy_trans HG5.out hg)
      have hvk := wis_of HV.out hk ⟨a0, a1, a2, a3⟩
      have hkb := cr_k (kis_cr hk ⟨a0, a1⟩) a1
      have HK := Lib.hid hk
      have HVK := Lib.hid hvk
      clear hg hk hvk
      have s1 : IntKind.i64.wrap (t + 1) = t + 1 := IntWalk.i64_in _ (by omega)
      have c1 : k ≤ 10000 := by omega
      have d1 : decide (k ≤ 10000) = true := decide_eq_true c1
      have m1 := Lib.hid (fun (h : k < t) => HVK.out ▸ cw_up (w := w0) a0 (Int.le_of_lt h))
      have m2 := Lib.hid (fun (h : t ≤ k) => HVK.out ▸ cw_down (w := w0) a0 h)
      by_cases ht : t < 10000
      · have dt : decide (t < 10000) = true := decide_eq_true ht
        go_wp2_with fail
        refine (cb_wI _ _ _).mono ?_
        rintro e w8 ⟨⟨u, rfl, hu⟩, hg⟩
        have HG8 := Lib.hid (grownBy_trans HG7.out hg)
        have hu2 := wis_of hu HK.out ⟨a0, a1, by omega, by omega⟩
        have hmono : v ≤ u := by rw [hu2, HVK.out]; exact cw_mono
        have du : decide (u < v) = false := decide_eq_false (by omega)
        clear hg hu hu2
        go_wp2_with fail
        refine (cb_wI _ _ _).mono ?_
        rintro e w9 ⟨⟨x9, rfl, hx⟩, hg⟩
        have HG9 := Lib.hid (grownBy_trans HG8.out hg)
        obtain rfl : x9 = w0 := (wis_of hx HK.out ⟨a0, a1, by omega, by omega⟩).trans (cw_at a0)
        clear hg hx
        by_cases hkt : k < t
        · have n1 := m1.out hkt
          have e1 : decide (k < t) = true := decide_eq_true hkt
          have e2 : decide (x9 ≤ v) = true := decide_eq_true n1
          go_wp2_with fail
          go_ret
          exact ⟨rfl, below_new HG9.out⟩
        · have n1 := m2.out (by omega)
          have e1 : decide (k < t) = false := decide_eq_false hkt
          have e2 : decide (v ≤ x9) = true := decide_eq_true n1
          have e3 : t ≤ k := by omega
          have e4 : decide (t ≤ k) = true := decide_eq_true e3
          go_wp2_with fail
          go_ret
          exact ⟨rfl, below_new HG9.out⟩
      · have dt : decide (t < 10000) = false := decide_eq_false ht
        go_wp2_with fail
        refine (cb_wI _ _ _).mono ?_
        rintro e w9 ⟨⟨x9, rfl, hx⟩, hg⟩
        have HG9 := Lib.hid (grownBy_trans HG7.out hg)
        obtain rfl : x9 = w0 := (wis_of hx HK.out ⟨a0, a1, by omega, by omega⟩).trans (cw_at a0)
        clear hg hx
        by_cases hkt : k < t
        · have n1 := m1.out hkt
          have e1 : decide (k < t) = true := decide_eq_true hkt
          have e2 : decide (x9 ≤ v) = true := decide_eq_true n1
          go_wp2_with fail
          go_ret
          exact ⟨rfl, below_new HG9.out⟩
        · have n1 := m2.out (by omega)
          have e1 : decide (k < t) = false := decide_eq_false hkt
          have e2 : decide (v ≤ x9) = true := decide_eq_true n1
          have e3 : t ≤ k := by omega
          have e4 : decide (t ≤ k) = true := decide_eq_true e3
          go_wp2_with fail
          go_ret
          exact ⟨rfl, below_new HG9.out⟩

set_option maxRecDepth 100000 in
theorem lifted (os : Os) (started : os.Started) (H : Type) (enc : TypeId × Value → H) :
    ReturnsInHanded {} Try.checked os 4 .any (Rows.fnCubicSpec.pre6 enc Try.prog Try.f4 Rows.fnCubicRow.domain false) (Rows.fnCubicSpec.post enc Try.prog Try.f4 false true false false) := by
  refine returnsInHanded_of_change (C := Try.checked) own started (by kernel_rfl) Try.func4
    (ChangeSpec.witness6 (enc := enc) (C := Try.checked) false ⟨#[], #[.slice none 0 0], []⟩ 8 (by kernel_rfl) (by kernel_rfl) (by kernel_rfl) (by kernel_rfl)) ?_
  intro W base args ds gs before hval0 hW hcnd _
  have hval : ∀ (j : Nat) t v, Try.f4.params[j]? = some t → args[j]? = some v → Value.okWide Try.prog W .any base t v := hval0
  have hW' := hW
  obtain ⟨p, q, hA0, hV, rfl, hfz, hnd⟩ := hW
  have hA : DataW.TrodAll enc Try.prog W 0 (fun _ => true) true Try.f4.params.toList args.toList ds p := hA0
  rw [Try.params4] at hA hval
  obtain ⟨v0, vs0, d0, ds0, p0, q0, hargs, rfl, rfl, h0, r0⟩ := trodAll_cons hA
  obtain ⟨rfl, rfl, rfl⟩ := trodAll_nil r0
  obtain rfl : args = #[v0] := by cases args; simp_all
  obtain ⟨rfl, rfl⟩ := trodVars_none hV
  have k0 := h0
  have lt0 : ∀ x ∈ p0, x.block < W.heap.size := by obtain ⟨m, hm⟩ := k0; exact DataW.trod_lt m _ _ _ hm
  obtain ⟨a0, len0, cap0, rfl⟩ := okWide_slice Try.underlying22 (hval 0 22 v0 rfl rfl)
  obtain ⟨z0, w0⟩ : ∃ zs, IsRow .u8 W a0 len0 cap0 zs := by
    obtain ⟨fuel, hf⟩ := h0
    rcases open_ints Try.underlying22 Try.underlying5 (by kernel_rfl) hf with ⟨hcs, _⟩ | ⟨x, l, c, zs, hcs, _, hl, hm, hz, _, hcell, hwz⟩
    · simp [Value.cells] at hcs
      obtain ⟨rfl, rfl, rfl⟩ := hcs
      exact ⟨[], .inl ⟨rfl, rfl, rfl, rfl⟩⟩
    · simp [Value.cells] at hcs
      obtain ⟨rfl, rfl, rfl⟩ := hcs
      exact ⟨zs, .inr ⟨_, rfl, hl, hm, by simpa using hz, hcell, hwz⟩⟩
  clear hA0 hval0
  refine (walk a0 len0 cap0 z0 W w0).mono fun e W' ⟨he, bel⟩ => ?_
  subst he
  exact ⟨_, rfl, _, _, _, [], _, [], hW', trodAll_mk1 (shut_bool Try.underlying4 _), (trodAll_cons_mk (Below.trod laidOut (by kernel_rfl) (of_decide_eq_true (by kernel_rfl)) k0 bel lt0) trodAll_mk0), rfl, bel.frame _, fun h => by cases h⟩

theorem over : Rows.fnCubicRow.holds Try.pinned (OpenSpec.ofChange Rows.fnCubicSpec) :=
  OpenClaim.holds_of_wide 4 Try.f4 rfl rfl rfl rfl rfl rfl rfl ⟨rfl, rfl, rfl, rfl, rfl⟩ rfl rfl rfl rfl rfl (by kernel_rfl) Try.func4 (by kernel_rfl)
    (of_decide_eq_true (by kernel_rfl)) (by unfold Func.isWrapper; first | (rw [if_pos (by decide +kernel)]; kernel_rfl) | (rw [if_neg (by decide +kernel)]; exact ⟨rfl, rfl⟩))
    (fun os started H enc _ => lifted os started H enc)

theorem proved : Rows.FnCubicSaid := over
end Go.Proofs.Ytaemjijkolnheaa.fnCubic
