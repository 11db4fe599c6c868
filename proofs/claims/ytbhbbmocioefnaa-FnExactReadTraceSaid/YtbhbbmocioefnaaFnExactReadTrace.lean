/- What the program reads of a trace is what the model reads, at all texts, and it owns its memory; no condition. -/
import Derived.Test.YtbhbbmocioefnaaRows
import Derived.Test.YtbhbbmocioefnaaMark
import Derived.WalkKit
import Derived.ProofKit
import Derived.OpenShut
import Derived.ShutString
import Derived.ChangeOld
import Derived.Below
import Derived.Lib.SmallJoins
namespace Go.Proofs.Ytbhbbmocioefnaa.fnExactReadTrace
open Go.ChangeShapes Go.WideShapes Go.ChangeAt Go.RowKit Go.Joins
open Go.ChangeMaps (open_string shut_string)
set_option linter.unusedVariables false

theorem own : ownKnob Try.prog.godebug = none := by kernel_rfl
theorem laidOut : laidOutB Try.prog = true := by kernel_rfl


theorem dummy : True := trivial

set_option maxRecDepth 100000 in
set_option maxHeartbeats 1000000 in
theorem walk (a0 : ByteArray) (w : World) (w0 : a0.size ≤ maxLen) :
    Calls Try.prog 5 #[.string a0] w fun e w' => e = .returned (.bool true) ∧ Below w.heap.size w w' := by
  obtain ⟨t, rfl⟩ : ∃ t : List UInt8, a0 = ⟨t.toArray⟩ := ⟨a0.data.toList, ba_of rfl⟩
  rw [str_size] at w0
  unfold maxLen at w0
  by_cases hbig : (1048576 : Int) < t.length
  · go_enter Try.func5, Try.ntmps5
    go_wp2_with fail
    go_ret
    exact ⟨rfl, Below.refl _ _⟩
  · have hS := read_spec t
    have hI := read_impl t
    have hn := readT_few t
    generalize (readT t).1 = l at *
    generalize (readT t).2 = pl at *
    have HR := Lib.hid (And.intro hS hI)
    clear hS hI
    go_enter Try.func5, Try.ntmps5
    go_wp2_with fail
    refine (HR.out.1 _).mono ?_
    rintro e w1 ⟨v1, rfl, hg, ho⟩
    obtain ⟨a1, c1, rfl⟩ := own_slice ho
    have H1 := Lib.hid (And.intro hg ho)
    clear hg ho
    go_wp2_with fail
    refine (HR.out.2 _).mono ?_
    rintro e w2 ⟨v2, rfl, hg, ho⟩
    obtain ⟨a2, c2, rfl⟩ := own_slice ho
    have H2 := Lib.hid (And.intro (grownBy_trans H1.out.1 hg) (And.intro ho (And.intro (H1.out.2.kept hg (by cases Value.ownBlock (.slice a1 l.length c1) <;> simp)) (own_apart H1.out.2 ho (Nat.le_refl _)))))
    have H1s := Lib.hid (H1.out.1.size)
    clear hg ho
    go_wp2_with fail
    refine (eq_packets _ _ _ _ _ _ (pk_own H2.out.2.1) (pk_own H2.out.2.2.1) (by omega)).mono ?_
    rintro e w3 ⟨rfl, hg⟩
    have H3 := Lib.hid (And.intro (grownBy_trans H2.out.1 hg) (And.intro (H2.out.2.1.kept hg (by cases Value.ownBlock (.slice a2 l.length c2) <;> simp)) (H2.out.2.2.1.kept hg (by cases Value.ownBlock (.slice a1 l.length c1) <;> simp))))
    clear hg
    go_wp2_with fail
    refine (mark_any _ _ _ _ _ (by omega) H3.out.2.1).mono ?_
    rintro e w4 ⟨rfl, hg, ho⟩
    have H4 := Lib.hid (And.intro (grown_row_none H3.out.1 hg H3.out.2.1 H1s.out) (And.intro ho (H3.out.2.2.kept hg H2.out.2.2.2)))
    clear hg ho
    go_wp2_with fail
    refine (held_any _ _ _ _ (pk_mark H4.out.2.1) (by omega)).mono ?_
    rintro e w5 ⟨rfl, hg⟩
    have H5 := Lib.hid (And.intro (grownBy_trans H4.out.1 hg) (And.intro (H4.out.2.1.kept hg (by cases Value.ownBlock (.slice a2 l.length c2) <;> simp)) (H4.out.2.2.kept hg (by cases Value.ownBlock (.slice a1 l.length c1) <;> simp))))
    clear hg
    have hnn : 0 ≤ 1 + 2 * (l.length : Int) := by omega
    go_wp2_with fail
    refine (HR.out.2 _).mono ?_
    rintro e w6 ⟨v3, rfl, hg, ho⟩
    obtain ⟨a3, c3, rfl⟩ := own_slice ho
    have H6 := Lib.hid (And.intro (grownBy_trans H5.out.1 hg) (And.intro (H5.out.2.1.kept hg (by cases Value.ownBlock (.slice a2 l.length c2) <;> simp)) (And.intro (H5.out.2.2.kept hg (by cases Value.ownBlock (.slice a1 l.length c1) <;> simp)) ho)))
    clear hg ho
    go_wp2_with fail
    refine (eq_packets _ _ _ _ _ _ (pk_own H6.out.2.2.2) (pk_own H6.out.2.2.1) (by omega)).mono ?_
    rintro e w7 ⟨rfl, hg⟩
    have H7 := Lib.hid (And.intro (grownBy_trans H6.out.1 hg) (H6.out.2.1.kept hg (by cases Value.ownBlock (.slice a2 l.length c2) <;> simp)))
    clear hg
    go_wp2_with fail
    refine (held_any _ _ _ _ (pk_mark H7.out.2) (by omega)).mono ?_
    rintro e w8 ⟨rfl, hg⟩
    have H8 := Lib.hid (grownBy_trans H7.out.1 hg)
    clear hg
    go_wp2_with fail
    go_ret
    exact ⟨rfl, below_new H8.out⟩

set_option maxRecDepth 100000 in
theorem lifted (os : Os) (started : os.Started) (H : Type) (enc : TypeId × Value → H) :
    ReturnsInHanded {} Try.checked os 5 .any (Rows.fnExactReadTraceSpec.pre6 enc Try.prog Try.f5 Rows.fnExactReadTraceRow.domain false) (Rows.fnExactReadTraceSpec.post enc Try.prog Try.f5 false true false false) := by
  refine returnsInHanded_of_change (C := Try.checked) own started (by kernel_rfl) Try.func5
    (ChangeSpec.witness6 (enc := enc) (C := Try.checked) false ⟨#[], #[.string ByteArray.empty], []⟩ 8 (by kernel_rfl) (by kernel_rfl) (by kernel_rfl) (by kernel_rfl)) ?_
  intro W base args ds gs before hval0 hW hcnd _
  have hval : ∀ (j : Nat) t v, Try.f5.params[j]? = some t → args[j]? = some v → Value.okWide Try.prog W .any base t v := hval0
  have hW' := hW
  obtain ⟨p, q, hA0, hV, rfl, hfz, hnd⟩ := hW
  have hA : DataW.TrodAll enc Try.prog W 0 (fun _ => true) true Try.f5.params.toList args.toList ds p := hA0
  rw [Try.params5] at hA hval
  obtain ⟨v0, vs0, d0, ds0, p0, q0, hargs, rfl, rfl, h0, r0⟩ := trodAll_cons hA
  obtain ⟨rfl, rfl, rfl⟩ := trodAll_nil r0
  obtain rfl : args = #[v0] := by cases args; simp_all
  obtain ⟨rfl, rfl⟩ := trodVars_none hV
  have k0 := h0
  have lt0 : ∀ x ∈ p0, x.block < W.heap.size := by obtain ⟨m, hm⟩ := k0; exact DataW.trod_lt m _ _ _ hm
  obtain ⟨a0, rfl, rfl, rfl, w0⟩ := open_string Try.underlying9 (hval 0 9 v0 rfl rfl) h0
  clear hA0 hval0
  refine (walk a0 W w0).mono fun e W' ⟨he, bel⟩ => ?_
  subst he
  exact ⟨_, rfl, _, _, _, [], _, [], hW', trodAll_mk1 (shut_bool Try.underlying4 _), (trodAll_cons_mk (Below.trod laidOut (by kernel_rfl) (of_decide_eq_true (by kernel_rfl)) k0 bel lt0) trodAll_mk0), rfl, bel.frame _, fun h => by cases h⟩

theorem over : Rows.fnExactReadTraceRow.holds Try.pinned (OpenSpec.ofChange Rows.fnExactReadTraceSpec) :=
  OpenClaim.holds_of_wide 5 Try.f5 rfl rfl rfl rfl rfl rfl rfl ⟨rfl, rfl, rfl, rfl, rfl⟩ rfl rfl rfl rfl rfl (by kernel_rfl) Try.func5 (by kernel_rfl)
    (of_decide_eq_true (by kernel_rfl)) (by unfold Func.isWrapper; first | (rw [if_pos (by decide +kernel)]; kernel_rfl) | (rw [if_neg (by decide +kernel)]; exact ⟨rfl, rfl⟩))
    (fun os started H enc _ => lifted os started H enc)

theorem proved : Rows.FnExactReadTraceSaid := over
end Go.Proofs.Ytbhbbmocioefnaa.fnExactReadTrace
