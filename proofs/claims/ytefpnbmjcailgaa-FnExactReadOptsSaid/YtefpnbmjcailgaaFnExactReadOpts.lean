/- For every text the law FnExactReadOpts answers true and leaves its argument as it was; no condition. -/
import Derived.Test.YtefpnbmjcailgaaRows
import Derived.Test.YtefpnbmjcailgaaDraw
import Derived.Test.YtefpnbmjcailgaaOpI
import Derived.WalkKit
import Derived.ProofKit
import Derived.OpenShut
import Derived.ShutString
import Derived.ChangeOld
import Derived.Below
import Derived.Lib.SmallJoins
namespace Go.Proofs.Ytefpnbmjcailgaa.fnExactReadOpts
open Go.ChangeShapes Go.WideShapes Go.ChangeAt Go.RowKit Go.Joins
open Go.ChangeMaps (open_string shut_string)
set_option linter.unusedVariables false

theorem own : ownKnob Try.prog.godebug = none := by kernel_rfl
theorem laidOut : laidOutB Try.prog = true := by kernel_rfl


theorem dummy : True := trivial

set_option maxRecDepth 100000 in
set_option maxHeartbeats 1000000 in
theorem walk (a0 : ByteArray) (w : World) (w0 : a0.size ≤ maxLen) :
    Calls Try.prog 4 #[.string a0] w fun e w' => e = .returned (.bool true) ∧ Below w.heap.size w w' := by
  obtain ⟨b, rfl⟩ : ∃ l : List UInt8, a0 = ⟨l.toArray⟩ := ⟨a0.data.toList, ba_of rfl⟩
  rw [str_size] at w0
  unfold maxLen at w0
  have hFL := readO_len b
  obtain ⟨V, hV⟩ : ∃ V, readO b = V := ⟨_, rfl⟩
  have HI := Lib.hid (fun (W : World) (h : b.length ≤ 9223372036854775807) => ro_impl b W h)
  have HSp := Lib.hid (fun (W : World) (h : b.length ≤ 9223372036854775807) => ro_spec b W h)
  unfold RoPost at HI HSp
  rw [hV] at HI HSp hFL
  clear hV
  obtain ⟨L, D⟩ := V
  dsimp only at HI HSp hFL
  by_cases hb : (1048576 : Int) < (b.length : Int)
  · go_enter Try.func4, Try.ntmps4
    go_wp2_with fail
    go_ret
    exact ⟨rfl, below_new (World.grownBy.refl _ _)⟩
  · go_enter Try.func4, Try.ntmps4
    go_wp2_with fail
    refine (HSp.out _ (by omega)).mono ?_
    rintro e w1 ⟨aS, cS, rfl, hg, ho⟩
    have H1 := Lib.hid (And.intro hg ho)
    clear hg ho
    go_wp2_with fail
    refine (HI.out _ (by omega)).mono ?_
    rintro e w2 ⟨aI, cI, rfl, hg, ho⟩
    have H2 := Lib.hid (And.intro (grownBy_trans H1.out.1 hg) (And.intro (own_kept H1.out.2 hg) (And.intro ho hg)))
    clear hg ho
    go_wp2_with fail
    refine (eq_packets _ _ _ _ _ _ (pk_own H2.out.2.2.1) (pk_own H2.out.2.1) (by omega)).mono ?_
    rintro e w3 ⟨rfl, hg⟩
    have H3 := Lib.hid (And.intro (grownBy_trans H2.out.1 hg) (And.intro (grownBy_trans H2.out.2.2.2 hg) (own_kept H2.out.2.2.1 hg)))
    clear hg
    have hne : (D != D) = false := by simp
    go_wp2_with fail
    refine (mark_any _ _ _ _ _ (by omega) H3.out.2.2).mono ?_
    rintro e w4 ⟨rfl, hg, ho⟩
    have H4 := Lib.hid (And.intro (grown_row_none H3.out.1 hg H3.out.2.2 H1.out.1.size) (And.intro (grown_row_none H3.out.2.1 hg H3.out.2.2 (Nat.le_refl _)) ho))
    clear hg ho
    have hm0 : ¬ 1 + 2 * (L.length : Int) < 0 := by omega
    go_wp2_with fail
    refine (held_any _ _ _ _ (pk_mark H4.out.2.2) (by omega)).mono ?_
    rintro e w5 ⟨rfl, hg⟩
    have H5 := Lib.hid (And.intro (grownBy_trans H4.out.1 hg) (And.intro (grownBy_trans H4.out.2.1 hg) (own_kept H4.out.2.2 hg)))
    clear hg
    go_wp2_with fail
    refine (HI.out _ (by omega)).mono ?_
    rintro e w6 ⟨aJ, cJ, rfl, hg, ho⟩
    have H6 := Lib.hid (And.intro (grownBy_trans H5.out.1 hg) (And.intro (grownBy_trans H5.out.2.1 hg) (And.intro (own_kept H5.out.2.2 hg) ho)))
    clear hg ho
    go_wp2_with fail
    refine (eq_packets _ _ _ _ _ _ (pk_own H6.out.2.2.2) (pk_own (own_kept H1.out.2 H6.out.2.1)) (by omega)).mono ?_
    rintro e w7 ⟨rfl, hg⟩
    have H7 := Lib.hid (And.intro (grownBy_trans H6.out.1 hg) (own_kept H6.out.2.2.1 hg))
    clear hg
    go_wp2_with fail
    refine (held_any _ _ _ _ (pk_mark H7.out.2) (by omega)).mono ?_
    rintro e w8 ⟨rfl, hg⟩
    have H8 := Lib.hid (grownBy_trans H7.out.1 hg)
    clear hg
    go_wp2_with fail
    go_ret
    exact ⟨rfl, below_new H8.out⟩

set_option maxRecDepth 100000 in
theorem lifted (os : Os) (started : os.Started) (H : Type) (enc : TypeId × Value → H) :
    ReturnsInHanded {} Try.checked os 4 .any (Rows.fnExactReadOptsSpec.pre6 enc Try.prog Try.f4 Rows.fnExactReadOptsRow.domain false) (Rows.fnExactReadOptsSpec.post enc Try.prog Try.f4 false true false false) := by
  refine returnsInHanded_of_change (C := Try.checked) own started (by kernel_rfl) Try.func4
    (ChangeSpec.witness6 (enc := enc) (C := Try.checked) false ⟨#[], #[.string ByteArray.empty], []⟩ 8 (by kernel_rfl) (by kernel_rfl) (by kernel_rfl) (by kernel_rfl)) ?_
  intro W base args ds gs before hval0 hW hcnd _
  have hval : ∀ (j : Nat) t v, Try.f4.params[j]? = some t → args[j]? = some v → Value.okWide Try.prog W .any base t v := hval0
  have hW' := hW
  obtain ⟨p, q, hA0, hV, rfl, hfz, hnd⟩ := hW
  have hA : DataW.TrodAll enc Try.prog W 0 (fun _ => true) true Try.f4.params.toList args.toList ds p := hA0
  rw [Try.params4] at hA hval
  obtain ⟨v0, vs0, d0, ds0, p0, q0, hargs, rfl, rfl, h0, r0⟩ := trodAll_cons hA
  obtain ⟨rfl, rfl, rfl⟩ := trodAll_nil r0
  obtain rfl : args = #[v0] := by cases args; simp_all
  obtain ⟨rfl, rfl⟩ := trodVars_none hV
  have k0 := h0
  have lt0 : ∀ x ∈ p0, x.block < W.heap.size := by obtain ⟨m, hm⟩ := k0; exact DataW.trod_lt m _ _ _ hm
  obtain ⟨a0, rfl, rfl, rfl, w0⟩ := open_string Try.underlying9 (hval 0 9 v0 rfl rfl) h0
  clear hA0 hval0
  refine (walk a0 W w0).mono fun e W' ⟨he, bel⟩ => ?_
  subst he
  exact ⟨_, rfl, _, _, _, [], _, [], hW', trodAll_mk1 (shut_bool Try.underlying4 _), (trodAll_cons_mk (Below.trod laidOut (by kernel_rfl) (of_decide_eq_true (by kernel_rfl)) k0 bel lt0) trodAll_mk0), rfl, bel.frame _, fun h => by cases h⟩

theorem over : Rows.fnExactReadOptsRow.holds Try.pinned (OpenSpec.ofChange Rows.fnExactReadOptsSpec) :=
  OpenClaim.holds_of_wide 4 Try.f4 rfl rfl rfl rfl rfl rfl rfl ⟨rfl, rfl, rfl, rfl, rfl⟩ rfl rfl rfl rfl rfl (by kernel_rfl) Try.func4 (by kernel_rfl)
    (of_decide_eq_true (by kernel_rfl)) (by unfold Func.isWrapper; first | (rw [if_pos (by decide +kernel)]; kernel_rfl) | (rw [if_neg (by decide +kernel)]; exact ⟨rfl, rfl⟩))
    (fun os started H enc _ => lifted os started H enc)

theorem proved : Rows.FnExactReadOptsSaid := over
end Go.Proofs.Ytefpnbmjcailgaa.fnExactReadOpts
