/- For every row of pieces and every number the law FnExactHoles answers true and leaves its arguments as they were; no condition. -/
import Derived.Test.YtobibbfamkjlaaaRows
import Derived.Test.YtobibbfamkjlaaaDraw
import Derived.Test.YtobibbfamkjlaaaDrawB
import Derived.Test.YtobibbfamkjlaaaPcTo
import Derived.WalkKit
import Derived.ProofKit
import Derived.OpenShut
import Derived.ShutString
import Derived.ChangeOld
import Derived.Below
import Derived.Lib.SmallJoins
import Derived.Deep.SlicePairs
namespace Go.Proofs.Ytobibbfamkjlaaa.fnExactHoles
open Go.ChangeShapes Go.WideShapes Go.ChangeAt Go.RowKit Go.Joins
open Go.ChangeMaps (open_string shut_string)
set_option linter.unusedVariables false

theorem own : ownKnob Try.prog.godebug = none := by kernel_rfl
theorem laidOut : laidOutB Try.prog = true := by kernel_rfl
theorem cells54 : Try.prog.cellsOf 54 = 2 := by kernel_rfl

theorem dummy : True := trivial

set_option maxRecDepth 100000 in
set_option maxHeartbeats 8000000 in
theorem walk (a0 : Option Addr) (cap0 : Nat) (l0 : List Pk) (a1 : Int) (w : World) (w0 : PkAt w a0 l0) (n0 : l0.length ≤ maxLen) (m0 : ∀ x ∈ l0, x.2.length ≤ maxLen) (w1 : (Lit.int .i64 a1).wf = true) :
    Calls Try.prog 5 #[.slice a0 l0.length cap0, .int .i64 a1] w fun e w' => e = .returned (.bool true) ∧ Below w.heap.size w w' := by
  unfold maxLen at n0 m0
  have HA := Lib.hid (And.intro w0 m0)
  clear w0 m0
  have HH := Lib.hid (holesL_len l0 a1)
  have hh61 := HH.out
  have hhnn : 0 ≤ 1 + 2 * ((holesL l0 a1).length : Int) := by omega
  go_enter Try.func5, Try.ntmps5
  go_wp2_with fail
  refine (sz_packets _ _ _ _ HA.out.1 n0 HA.out.2).mono ?_
  rintro e w1 ⟨q, rfl, hg, hq⟩
  by_cases h0 : q < 0
  · have HG := Lib.hid hg
    clear hg hq
    go_wp2_with fail
    go_ret
    exact ⟨rfl, below_new HG.out⟩
  · obtain ⟨hn, hm⟩ := hq (by omega)
    have H1 := Lib.hid (And.intro hg hm)
    clear hg hq hm n0
    have hnn : ¬ 1 + 2 * (l0.length : Int) < 0 := by omega
    go_wp2_with fail
    refine (to_packets _ _ _ _ (HA.out.1.kept H1.out.1) hn).mono ?_
    rintro e w2 ⟨g, rfl, hg, hp⟩
    have H2 := Lib.hid (And.intro (grownBy_trans H1.out.1 hg) hp)
    clear hg hp
    go_wp2_with fail
    refine (holes_spec _ _ _ _ _ H2.out.2 (by omega)).mono ?_
    rintro e w3 ⟨v3, rfl, hg, ho⟩
    obtain ⟨a3, c3, rfl⟩ := own_slice ho
    have H3 := Lib.hid (And.intro (grownBy_trans H2.out.1 hg) ho)
    clear hg ho
    go_wp2_with fail
    refine (to_owned _ _ _ _ (HA.out.1.kept H3.out.1) hn).mono ?_
    rintro e w4 ⟨g4, rfl, hg, ho⟩
    have H4 := Lib.hid (And.intro (grownBy_trans H3.out.1 hg) (And.intro ho (And.intro (own_kept H3.out.2 hg) (own_apart1 H3.out.2 ho (Nat.le_refl _)))))
    clear hg ho
    go_wp2_with fail
    refine (holes_impl _ _ _ _ _ (pk_own H4.out.2.1)).mono ?_
    rintro e w5 ⟨v5, rfl, hg, ho⟩
    obtain ⟨a5, c5, rfl⟩ := own_slice ho
    have H5 := Lib.hid (And.intro (grownBy_trans H4.out.1 hg) (And.intro (own_kept H4.out.2.1 hg) (And.intro (own_kept H4.out.2.2.1 hg) (And.intro ho (And.intro (own_apart2 H4.out.2.1 ho (Nat.le_refl _)) (own_apart1 H4.out.2.2.1 ho (Nat.le_refl _)))))))
    have H3s := Lib.hid (show w.heap.size ≤ w3.heap.size from H3.out.1.size)
    have H4s := Lib.hid (show w.heap.size ≤ w4.heap.size from H4.out.1.size)
    clear hg ho
    go_wp2_with fail
    refine (eq_ranges _ _ _ _ _ _ (rg_own H5.out.2.2.2.1) (rg_own H5.out.2.2.1) (by omega)).mono ?_
    rintro e w6 ⟨rfl, hg⟩
    have H6 := Lib.hid (And.intro (grownBy_trans H5.out.1 hg) (And.intro (own_kept H5.out.2.1 hg) (And.intro (own_kept H5.out.2.2.1 hg) (own_kept H5.out.2.2.2.1 hg))))
    clear hg
    go_wp2_with fail
    refine (to_packets _ _ _ _ (HA.out.1.kept H6.out.1) hn).mono ?_
    rintro e w7 ⟨g7, rfl, hg, hp⟩
    have H7 := Lib.hid (And.intro (grownBy_trans H6.out.1 hg) (And.intro (own_kept H6.out.2.1 hg) (And.intro (own_kept H6.out.2.2.1 hg) (And.intro (own_kept H6.out.2.2.2 hg) hp))))
    clear hg hp
    go_wp2_with fail
    refine (eq_packets _ _ _ _ _ _ (pk_own H7.out.2.1) H7.out.2.2.2.2 hn).mono ?_
    rintro e w8 ⟨rfl, hg⟩
    have H8 := Lib.hid (And.intro (grownBy_trans H7.out.1 hg) (And.intro (own_kept H7.out.2.1 hg) (And.intro (own_kept H7.out.2.2.1 hg) (own_kept H7.out.2.2.2.1 hg))))
    clear hg
    go_wp2_with fail
    refine (mark_any _ _ _ _ _ hn H8.out.2.1).mono ?_
    rintro e w9 ⟨rfl, hg, ho⟩
    have H9 := Lib.hid (And.intro (grown_row_none H8.out.1 hg H8.out.2.1 H3s.out) (And.intro (H8.out.2.2.1.kept hg H4.out.2.2.2) (H8.out.2.2.2.kept hg H5.out.2.2.2.2.1)))
    clear hg ho
    go_wp2_with fail
    refine (eq_ranges _ _ _ _ _ _ (rg_own H9.out.2.2) (rg_own H9.out.2.1) (by omega)).mono ?_
    rintro e w10 ⟨rfl, hg⟩
    have H10 := Lib.hid (And.intro (grownBy_trans H9.out.1 hg) (And.intro (own_kept H9.out.2.1 hg) (own_kept H9.out.2.2 hg)))
    clear hg
    go_wp2_with fail
    refine (rmark_any _ _ _ _ _ (by omega) H10.out.2.2).mono ?_
    rintro e w11 ⟨rfl, hg, ho⟩
    have H11 := Lib.hid (And.intro (grown_row_none H10.out.1 hg H10.out.2.2 H4s.out) (And.intro (H10.out.2.1.kept hg H5.out.2.2.2.2.2) ho))
    clear hg ho
    go_wp2_with fail
    refine (rheld_any _ _ _ _ (rg_mark H11.out.2.2) (by omega)).mono ?_
    rintro e w12 ⟨rfl, hg⟩
    have H12 := Lib.hid (And.intro (grownBy_trans H11.out.1 hg) (And.intro (own_kept H11.out.2.1 hg) (own_kept H11.out.2.2 hg)))
    clear hg
    go_wp2_with fail
    refine (to_packets _ _ _ _ (HA.out.1.kept H12.out.1) hn).mono ?_
    rintro e w13 ⟨g13, rfl, hg, hp⟩
    have H13 := Lib.hid (And.intro (grownBy_trans H12.out.1 hg) (And.intro (own_kept H12.out.2.1 hg) (And.intro (own_kept H12.out.2.2 hg) hp)))
    clear hg hp
    go_wp2_with fail
    refine (holes_impl _ _ _ _ _ H13.out.2.2.2).mono ?_
    rintro e w14 ⟨v14, rfl, hg, ho⟩
    obtain ⟨a14, c14, rfl⟩ := own_slice ho
    have H14 := Lib.hid (And.intro (grownBy_trans H13.out.1 hg) (And.intro (own_kept H13.out.2.1 hg) (And.intro (own_kept H13.out.2.2.1 hg) ho)))
    clear hg ho
    go_wp2_with fail
    refine (eq_ranges _ _ _ _ _ _ (rg_own H14.out.2.2.2) (rg_own H14.out.2.1) (by omega)).mono ?_
    rintro e w15 ⟨rfl, hg⟩
    have H15 := Lib.hid (And.intro (grownBy_trans H14.out.1 hg) (own_kept H14.out.2.2.1 hg))
    clear hg
    go_wp2_with fail
    refine (rheld_any _ _ _ _ (rg_mark H15.out.2) (by omega)).mono ?_
    rintro e w16 ⟨rfl, hg⟩
    have H16 := Lib.hid (grownBy_trans H15.out.1 hg)
    clear hg
    go_wp2_with fail
    go_ret
    exact ⟨rfl, below_new H16.out⟩

set_option maxRecDepth 100000 in
theorem lifted (os : Os) (started : os.Started) (H : Type) (enc : TypeId × Value → H) :
    ReturnsInHanded {} Try.checked os 5 .any (Rows.fnExactHolesSpec.pre6 enc Try.prog Try.f5 Rows.fnExactHolesRow.domain false) (Rows.fnExactHolesSpec.post enc Try.prog Try.f5 false true false false) := by
  refine returnsInHanded_of_change (C := Try.checked) own started (by kernel_rfl) Try.func5
    (ChangeSpec.witness6 (enc := enc) (C := Try.checked) false ⟨#[], #[.slice none 0 0, .int .i64 0], []⟩ 8 (by kernel_rfl) (by kernel_rfl) (by kernel_rfl) (by kernel_rfl)) ?_
  intro W base args ds gs before hval0 hW hcnd _
  have hval : ∀ (j : Nat) t v, Try.f5.params[j]? = some t → args[j]? = some v → Value.okWide Try.prog W .any base t v := hval0
  have hW' := hW
  obtain ⟨p, q, hA0, hV, rfl, hfz, hnd⟩ := hW
  have hA : DataW.TrodAll enc Try.prog W 0 (fun _ => true) true Try.f5.params.toList args.toList ds p := hA0
  rw [Try.params5] at hA hval
  obtain ⟨v0, vs0, d0, ds0, p0, q0, hargs, rfl, rfl, h0, r0⟩ := trodAll_cons hA
  obtain ⟨v1, vs1, d1, ds1, p1, q1, rfl, rfl, rfl, h1, r1⟩ := trodAll_cons r0
  obtain ⟨rfl, rfl, rfl⟩ := trodAll_nil r1
  obtain rfl : args = #[v0, v1] := by cases args; simp_all
  obtain ⟨rfl, rfl⟩ := trodVars_none hV
  have k0 := h0
  have lt0 : ∀ x ∈ p0, x.block < W.heap.size := by obtain ⟨m, hm⟩ := k0; exact DataW.trod_lt m _ _ _ hm
  obtain ⟨a0, len0, cap0, rfl⟩ := okWide_slice Try.underlying39 (hval 0 39 v0 rfl rfl)
  obtain ⟨l0, e0, w0, n0, m0⟩ : ∃ l : List Pk, l.length = len0 ∧ PkAt W a0 l ∧ l.length ≤ maxLen ∧ ∀ x ∈ l, x.2.length ≤ maxLen := by
    obtain ⟨fuel, hf⟩ := h0
    rcases Deep.open_slice_pairs Try.underlying39 Try.underlying54 cells54 rfl rfl (by kernel_rfl) (by kernel_rfl) hf with ⟨hcs, _⟩ | ⟨x, l, c, m, n, V0, V1, D0, D1, P0, P1, hcs, _, hl, hm, hmm, _, hall⟩
    · simp [Value.cells] at hcs
      obtain ⟨rfl, rfl, rfl⟩ := hcs
      exact ⟨[], rfl, .inl rfl, Nat.zero_le _, by simp⟩
    · simp [Value.cells] at hcs
      obtain ⟨rfl, rfl, rfl⟩ := hcs
      have hmc : m = cap0 := by simpa using hmm
      obtain ⟨ps, hlen, hps⟩ := list_of (P := fun i (p : Pk) => W.cell? (x.add (i * 2)) = some (.int .i64 p.1) ∧ W.cell? (x.add (i * 2 + 1)) = some (.string ⟨p.2.toArray⟩) ∧ p.2.length ≤ maxLen) len0 (fun i hi => by
        obtain ⟨c0, c1, t0, t1⟩ := hall i (by omega)
        obtain ⟨u, e0, _, wu⟩ := DataW.trod_int Try.underlying2 t0
        obtain ⟨s, e1, _, ws⟩ := DataW.trod_string Try.underlying9 t1
        simp only [List.cons.injEq, and_true] at e0 e1
        rw [e0] at c0
        rw [e1] at c1
        exact ⟨(u, s.data.toList), c0, by simpa using c1, ws⟩)
      refine ⟨ps, hlen, pkAt_of fun i hi => ⟨(hps i hi).1, (hps i hi).2.1⟩, by omega, fun x hx => ?_⟩
      obtain ⟨i, hi, rfl⟩ := List.getElem_of_mem hx
      exact (hps i hi).2.2
  subst e0
  have k1 := h1
  have lt1 : ∀ x ∈ p1, x.block < W.heap.size := by obtain ⟨m, hm⟩ := k1; exact DataW.trod_lt m _ _ _ hm
  obtain ⟨a1, rfl, rfl, rfl, w1⟩ := open_int Try.underlying2 (hval 1 2 v1 rfl rfl) h1
  clear hA0 hval0
  refine (walk a0 cap0 l0 a1 W w0 n0 m0 w1).mono fun e W' ⟨he, bel⟩ => ?_
  subst he
  exact ⟨_, rfl, _, _, _, [], _, [], hW', trodAll_mk1 (shut_bool Try.underlying4 _), (trodAll_cons_mk (Below.trod laidOut (by kernel_rfl) (of_decide_eq_true (by kernel_rfl)) k0 bel lt0) (trodAll_cons_mk (Below.trod laidOut (by kernel_rfl) (of_decide_eq_true (by kernel_rfl)) k1 bel lt1) trodAll_mk0)), rfl, bel.frame _, fun h => by cases h⟩

theorem over : Rows.fnExactHolesRow.holds Try.pinned (OpenSpec.ofChange Rows.fnExactHolesSpec) :=
  OpenClaim.holds_of_wide 5 Try.f5 rfl rfl rfl rfl rfl rfl rfl ⟨rfl, rfl, rfl, rfl, rfl⟩ rfl rfl rfl rfl rfl (by kernel_rfl) Try.func5 (by kernel_rfl)
    (of_decide_eq_true (by kernel_rfl)) (by unfold Func.isWrapper; first | (rw [if_pos (by decide +kernel)]; kernel_rfl) | (rw [if_neg (by decide +kernel)]; exact ⟨rfl, rfl⟩))
    (fun os started H enc _ => lifted os started H enc)

theorem proved : Rows.FnExactHolesSaid := over
end Go.Proofs.Ytobibbfamkjlaaa.fnExactHoles
