/- For every code of bytes the law FnNumbers answers true and leaves the code as it was; no condition. -/
import Derived.Test.YthghlnfhecafeaaRows
import Derived.WalkKit
import Derived.Test.YthghlnfhecafeaaBack
import Derived.ProofKit
import Derived.OpenShut
import Derived.ShutString
import Derived.ChangeOld
import Derived.Below
namespace Go.Proofs.Ythghlnfhecafeaa.fnNumbers
open Go.ChangeShapes Go.WideShapes Go.ChangeAt Go.RowKit
open Go.ChangeMaps (open_string shut_string)
set_option linter.unusedVariables false

theorem own : ownKnob Try.prog.godebug = none := by kernel_rfl
theorem laidOut : laidOutB Try.prog = true := by kernel_rfl

/-- WHAT THE WALK IS TOLD OF A SLICE OF INTEGERS THAT CAME IN: it is nil; or it leads to a row of 'cap' cells, the numbers 'zs' (the first 'len' are its elements, the rest its spare room), each fitting its kind. -/
def IsRow (k : IntKind) (w : World) (a : Option Addr) (len cap : Nat) (zs : List Int) : Prop :=
  (a = none ∧ len = 0 ∧ cap = 0 ∧ zs = []) ∨
  ∃ x, a = some x ∧ len ≤ cap ∧ cap ≤ maxLen ∧ zs.length = cap ∧ (∀ i, i < zs.length → w.cell? (x.add i) = some (.int k (zs.getD i 0))) ∧ ∀ n ∈ zs, (Lit.int k n).wf = true

theorem get_impl_l (l : List UInt8) (w : World) (h : l.length ≤ 3000) : Calls Try.prog 15 #[.string ⟨l.toArray⟩] w fun e w' => e = .returned (.int .i64 (getBe l)) ∧ w = w' := get_impl ⟨l.toArray⟩ w (le_max (by rw [str_size]; omega))
theorem get_spec_l (l : List UInt8) (w : World) (h : l.length ≤ 3000) : Calls Try.prog 16 #[.string ⟨l.toArray⟩] w fun e w' => e = .returned (.int .i64 (getBe l)) ∧ w = w' := get_spec ⟨l.toArray⟩ w (le_max (by rw [str_size]; omega))
theorem get_le_impl_l (l : List UInt8) (w : World) (h : l.length ≤ 3000) : Calls Try.prog 17 #[.string ⟨l.toArray⟩] w fun e w' => e = .returned (.int .i64 (getBe l.reverse)) ∧ w = w' := get_le_impl ⟨l.toArray⟩ w (le_max (by rw [str_size]; omega))
theorem get_le_spec_l (l : List UInt8) (w : World) (h : l.length ≤ 3000) : Calls Try.prog 18 #[.string ⟨l.toArray⟩] w fun e w' => e = .returned (.int .i64 (getBe l.reverse)) ∧ w.grownBy w' none := get_le_spec ⟨l.toArray⟩ w (by rw [str_size]; omega)
theorem back_l (l : List UInt8) (w : World) (h : l.length ≤ 3000) : Calls Try.prog 19 #[.string ⟨l.toArray⟩] w fun e w' => e = .returned (.string ⟨l.reverse.toArray⟩) ∧ w = w' := back_any ⟨l.toArray⟩ w (by rw [str_size]; omega)

set_option maxRecDepth 100000 in
set_option maxHeartbeats 1000000 in
theorem walk (a0 : Option Addr) (len0 cap0 : Nat) (z0 : List Int) (w : World) (w0 : IsRow .u8 w a0 len0 cap0 z0) :
    Calls Try.prog 3 #[.slice a0 len0 cap0] w fun e w' => e = .returned (.bool true) ∧ Below w.heap.size w w' := by
  have hc := code_of w0
  clear w0
  have HC := Lib.hid hc
  clear hc
  by_cases hbig : 1048576 < len0
  · go_enter Try.func3, Try.ntmps3
    go_wp2_with (go_at_call 6; refine (big_any _ _ _ _).mono ?_; rintro e w' ⟨rfl, rfl⟩)
    go_ret
    exact ⟨rfl, Below.refl _ _⟩
  · go_enter Try.func3, Try.ntmps3
    go_wp2_with (go_at_call 6; refine (big_any _ _ _ _).mono ?_; rintro e w' ⟨rfl, rfl⟩)
    refine (draw_put _ _ _ _ HC.out).mono ?_
    rintro e w1 ⟨n, k, hn, hk, rfl, hg⟩
    have HG := Lib.hid hg
    clear hg hn hk
    go_wp2_with fail
    refine (draw_put_le _ _ _ _ (HC.out.kept HG.out)).mono ?_
    rintro e w2 ⟨m, v, hn, hk, rfl, hg⟩
    have HG2 := Lib.hid (grownBy_trans HG.out hg)
    clear hg hn hk
    go_wp2_with fail
    refine (put_be_impl _ _ _).mono ?_
    rintro e w3 ⟨rfl, hg⟩
    have HG3 := Lib.hid (grownBy_trans HG2.out hg)
    clear hg
    go_wp2_with fail
    refine (put_le_impl _ _ _).mono ?_
    rintro e w4 ⟨rfl, hg⟩
    have HG4 := Lib.hid (grownBy_trans HG3.out hg)
    clear hg
    go_wp2_with fail
    refine (draw_get _ _ _ _ (HC.out.kept HG4.out)).mono ?_
    rintro e w5 ⟨b, hb, rfl, hg⟩
    have HG5 := Lib.hid (grownBy_trans HG4.out hg)
    clear hg
    go_wp2_with fail
    refine (draw_get_le _ _ _ _ (HC.out.kept HG5.out)).mono ?_
    rintro e w6 ⟨c, hc, rfl, hg⟩
    have HG6 := Lib.hid (grownBy_trans HG5.out hg)
    clear hg
    go_wp2_with fail
    refine (put_spec _ _ _).mono ?_
    rintro e w7 ⟨rfl, hg⟩
    have HG7 := Lib.hid (grownBy_trans HG6.out hg)
    clear hg
    go_wp2_with fail
    refine (put_le_spec _ _ _).mono ?_
    rintro e w8 ⟨rfl, hg⟩
    have HG8 := Lib.hid (grownBy_trans HG7.out hg)
    clear hg
    go_wp2_with fail
    refine (get_impl_l b _ (by omega)).mono ?_
    rintro e w' ⟨rfl, rfl⟩
    go_wp2_with fail
    refine (get_spec_l b _ (by omega)).mono ?_
    rintro e w' ⟨rfl, rfl⟩
    go_wp2_with fail
    refine (get_le_impl_l c _ (by omega)).mono ?_
    rintro e w' ⟨rfl, rfl⟩
    go_wp2_with fail
    refine (get_le_spec_l c _ (by omega)).mono ?_
    rintro e w9 ⟨rfl, hg⟩
    have HG9 := Lib.hid (grownBy_trans HG8.out hg)
    clear hg
    have hlen := len_le n k
    by_cases hok : putOk n k
    · have hne : putL n k ≠ [] := fun e => (putL_empty n k).1 e hok
      have HGP := Lib.hid (get_put n k hok)
      generalize hpe : putL n k = p at *
      have HPE := Lib.hid hpe
      clear hpe
      have h1 : p.isEmpty = false := by simpa using hne
      clear hne hok
      go_wp2_with fail
      refine (get_impl_l p _ (by omega)).mono ?_
      rintro e w' ⟨rfl, rfl⟩
      rw [HGP.out]
      go_wp2_with fail
      refine (back_l p _ (by omega)).mono ?_
      rintro e w' ⟨rfl, rfl⟩
      go_wp2_with fail
      refine (get_le_impl_l p.reverse _ (by simp; omega)).mono ?_
      rintro e w' ⟨rfl, rfl⟩
      rw [List.reverse_reverse, HGP.out]
      go_wp2_with fail
      refine (put_le_impl _ _ _).mono ?_
      rintro e w10 ⟨rfl, hg⟩
      have HGX := Lib.hid (grownBy_trans HG9.out hg)
      clear hg
      rw [HPE.out]
      go_wp2_with fail
      refine (back_l p _ (by omega)).mono ?_
      rintro e w' ⟨rfl, rfl⟩
      go_wp2_with fail
      refine (get_impl_l b _ (by omega)).mono ?_
      rintro e w' ⟨rfl, rfl⟩
      by_cases hk : getBe b < 0
      · go_wp2_with fail
        go_ret
        exact ⟨rfl, below_new HGX.out⟩
      · have HPG := Lib.hid (put_get b (by omega))
        go_wp2_with fail
        refine (put_be_impl _ _ _).mono ?_
        rintro e w11 ⟨rfl, hg⟩
        have HG11 := Lib.hid (grownBy_trans HGX.out hg)
        clear hg
        rw [HPG.out]
        go_wp2_with fail
        refine (back_l b _ (by omega)).mono ?_
        rintro e w' ⟨rfl, rfl⟩
        go_wp2_with fail
        refine (get_le_impl_l b.reverse _ (by simp; omega)).mono ?_
        rintro e w' ⟨rfl, rfl⟩
        rw [List.reverse_reverse]
        go_wp2_with fail
        go_ret
        exact ⟨rfl, below_new HG11.out⟩
    · have HPN := Lib.hid (putL_not hok)
      clear hok
      rw [HPN.out]
      have HGX := HG9
      go_wp2_with fail
      refine (get_impl_l b _ (by omega)).mono ?_
      rintro e w' ⟨rfl, rfl⟩
      by_cases hk : getBe b < 0
      · go_wp2_with fail
        go_ret
        exact ⟨rfl, below_new HGX.out⟩
      · have HPG := Lib.hid (put_get b (by omega))
        go_wp2_with fail
        refine (put_be_impl _ _ _).mono ?_
        rintro e w11 ⟨rfl, hg⟩
        have HG11 := Lib.hid (grownBy_trans HGX.out hg)
        clear hg
        rw [HPG.out]
        go_wp2_with fail
        refine (back_l b _ (by omega)).mono ?_
        rintro e w' ⟨rfl, rfl⟩
        go_wp2_with fail
        refine (get_le_impl_l b.reverse _ (by simp; omega)).mono ?_
        rintro e w' ⟨rfl, rfl⟩
        rw [List.reverse_reverse]
        go_wp2_with fail
        go_ret
        exact ⟨rfl, below_new HG11.out⟩

set_option maxRecDepth 100000 in
theorem lifted (os : Os) (started : os.Started) (H : Type) (enc : TypeId × Value → H) :
    ReturnsInHanded {} Try.checked os 3 .any (Rows.fnNumbersSpec.pre6 enc Try.prog Try.f3 Rows.fnNumbersRow.domain false) (Rows.fnNumbersSpec.post enc Try.prog Try.f3 false true false false) := by
  refine returnsInHanded_of_change (C := Try.checked) own started (by kernel_rfl) Try.func3
    (ChangeSpec.witness6 (enc := enc) (C := Try.checked) false ⟨#[], #[.slice none 0 0], []⟩ 8 (by kernel_rfl) (by kernel_rfl) (by kernel_rfl) (by kernel_rfl)) ?_
  intro W base args ds gs before hval0 hW hcnd _
  have hval : ∀ (j : Nat) t v, Try.f3.params[j]? = some t → args[j]? = some v → Value.okWide Try.prog W .any base t v := hval0
  have hW' := hW
  obtain ⟨p, q, hA0, hV, rfl, hfz, hnd⟩ := hW
  have hA : DataW.TrodAll enc Try.prog W 0 (fun _ => true) true Try.f3.params.toList args.toList ds p := hA0
  rw [Try.params3] at hA hval
  obtain ⟨v0, vs0, d0, ds0, p0, q0, hargs, rfl, rfl, h0, r0⟩ := trodAll_cons hA
  obtain ⟨rfl, rfl, rfl⟩ := trodAll_nil r0
  obtain rfl : args = #[v0] := by cases args; simp_all
  obtain ⟨rfl, rfl⟩ := trodVars_none hV
  obtain ⟨a0, len0, cap0, rfl⟩ := okWide_slice Try.underlying22 (hval 0 22 v0 rfl rfl)
  have k0 := h0
  have lt0 : ∀ x ∈ p0, x.block < W.heap.size := by obtain ⟨m, hm⟩ := k0; exact DataW.trod_lt m _ _ _ hm
  obtain ⟨z0, w0⟩ : ∃ zs, IsRow .u8 W a0 len0 cap0 zs := by
    obtain ⟨fuel, hf⟩ := h0
    rcases open_ints Try.underlying22 Try.underlying5 (by kernel_rfl) hf with ⟨hcs, _⟩ | ⟨x, l, c, zs, hcs, _, hl, hm, hz, _, hcell, hwz⟩
    · simp [Value.cells] at hcs
      obtain ⟨rfl, rfl, rfl⟩ := hcs
      exact ⟨[], .inl ⟨rfl, rfl, rfl, rfl⟩⟩
    · simp [Value.cells] at hcs
      obtain ⟨rfl, rfl, rfl⟩ := hcs
      exact ⟨zs, .inr ⟨_, rfl, hl, hm, by simpa using hz, hcell, hwz⟩⟩
  clear hA0 hval0
  refine (walk a0 len0 cap0 z0 W w0).mono fun e W' ⟨he, bel⟩ => ?_
  subst he
  exact ⟨_, rfl, _, _, _, [], _, [], hW', trodAll_mk1 (shut_bool Try.underlying4 _), (trodAll_cons_mk (Below.trod laidOut (by kernel_rfl) (of_decide_eq_true (by kernel_rfl)) k0 bel lt0) trodAll_mk0), rfl, bel.frame _, fun h => by cases h⟩

theorem over : Rows.fnNumbersRow.holds Try.pinned (OpenSpec.ofChange Rows.fnNumbersSpec) :=
  OpenClaim.holds_of_wide 3 Try.f3 rfl rfl rfl rfl rfl rfl rfl ⟨rfl, rfl, rfl, rfl, rfl⟩ rfl rfl rfl rfl rfl (by kernel_rfl) Try.func3 (by kernel_rfl)
    (of_decide_eq_true (by kernel_rfl)) (by unfold Func.isWrapper; first | (rw [if_pos (by decide +kernel)]; kernel_rfl) | (rw [if_neg (by decide +kernel)]; exact ⟨rfl, rfl⟩))
    (fun os started H enc _ => lifted os started H enc)

theorem proved : Rows.FnNumbersSaid := over
end Go.Proofs.Ythghlnfhecafeaa.fnNumbers
