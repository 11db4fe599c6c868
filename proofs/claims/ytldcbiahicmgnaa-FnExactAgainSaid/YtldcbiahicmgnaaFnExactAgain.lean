/- For every list of notes the law FnExactAgain answers true and leaves its argument as it was; no condition. -/
import Derived.Test.YtldcbiahicmgnaaRows
import Derived.Test.YtldcbiahicmgnaaDraw
import Derived.Test.YtldcbiahicmgnaaNg
import Derived.WalkKit
import Derived.ProofKit
import Derived.OpenShut
import Derived.ShutString
import Derived.ChangeOld
import Derived.Below
import Derived.Lib.SmallJoins
import Derived.Deep.SlicePairs
namespace Go.Proofs.Ytldcbiahicmgnaa.fnExactAgain
open Go.ChangeShapes Go.WideShapes Go.ChangeAt Go.RowKit Go.Joins
open Go.ChangeMaps (open_string shut_string)
set_option linter.unusedVariables false

theorem own : ownKnob Try.prog.godebug = none := by kernel_rfl
theorem laidOut : laidOutB Try.prog = true := by kernel_rfl
theorem cells41 : Try.prog.cellsOf 41 = 4 := by kernel_rfl
theorem cells63 : Try.prog.cellsOf 63 = 2 := by kernel_rfl

theorem o_all {t u : List Nt} (h : u.map Nt.o = t.map Nt.o) {N : Nat} (hm : ∀ x ∈ t, x.l.length ≤ N) : ∀ x ∈ u, x.l.length ≤ N := by
  intro x hx
  have hm2 : x.o ∈ t.map Nt.o := by rw [← h]; exact List.mem_map_of_mem hx
  obtain ⟨y, hy, e⟩ := List.mem_map.1 hm2
  have := hm y hy
  simp only [Nt.o, No.mk.injEq] at e
  rw [← e.2.2.2]
  exact this

set_option maxRecDepth 100000 in
set_option maxHeartbeats 2000000 in
theorem walk (a0 : Option Addr) (cap0 : Nat) (l0 : List Nt) (w : World) (w0 : NtAt w a0 l0) (n0 : l0.length ≤ maxLen) (m0 : ∀ x ∈ l0, x.l.length ≤ maxLen) :
    Calls Try.prog 4 #[.slice a0 l0.length cap0] w fun e w' => e = .returned (.bool true) ∧ Below w.heap.size w w' := by
  unfold maxLen at n0
  have H0 := Lib.hid (And.intro w0 m0)
  clear w0 m0
  go_enter Try.func4, Try.ntmps4
  go_wp2_with fail
  refine (sz_notesO _ _ _ _ H0.out.1 (by unfold maxLen; exact n0) H0.out.2).mono ?_
  rintro e w1 ⟨⟨r, rfl, hr⟩, hg⟩
  have H1 := Lib.hid (And.intro (H0.out.1.kept hg) hg)
  clear hg
  by_cases hr0 : r < 0
  · go_wp2_with fail
    go_ret
    exact ⟨rfl, below_new H1.out.2⟩
  · have hsum := hr (by omega)
    have HM := Lib.hid (show l0.length ≤ 1048576 ∧ ∀ x ∈ l0, x.l.length ≤ 1048576 from ⟨by omega, fun x hx => by have := sum_mem hx; omega⟩)
    clear hr
    have HLen := Lib.hid (againN_len l0)
    obtain ⟨L, hL⟩ : ∃ b, b = againN l0 := ⟨_, rfl⟩
    rw [← hL] at HLen
    have hL3 : L.length ≤ 300 := HLen.out
    have HB := Lib.hid hL
    clear hL
    go_wp2_with fail
    refine (to_notes a0 cap0 l0 _ H1.out.1 HM.out.1 HM.out.2).mono ?_
    rintro e w2 ⟨us2, hul, huo, rfl, hg, hn⟩
    have hs := ag_S _ l0.length us2 w2 hn (by rw [hul]; exact HM.out.1) (o_all huo HM.out.2)
    rw [againN_same huo, ← HB.out, hul] at hs
    have HS := Lib.hid hs
    have H2 := Lib.hid (And.intro (H1.out.1.kept hg) (grownBy_trans H1.out.2 hg))
    clear hg hn hul huo hs
    go_wp2_with fail
    refine HS.out.mono ?_
    rintro e w3 ⟨aS, cS, rfl, hg, hoS⟩
    have H3 := Lib.hid (And.intro (H2.out.1.kept hg) (And.intro (grownBy_trans H2.out.2 hg) hoS))
    clear hg hoS HS
    go_wp2_with fail
    refine (to_notesO a0 cap0 l0 _ H3.out.1 HM.out.1 HM.out.2).mono ?_
    rintro e w4 ⟨us4, hul, huo, rfl, hg, hn, hon⟩
    have H4 := Lib.hid (And.intro (H3.out.1.kept hg) (And.intro (grownBy_trans H3.out.2.1 hg) (And.intro hg (And.intro hn (And.intro hon huo)))))
    have hs := ag_I _ l0.length us4 w4 hn
    rw [againN_same huo, ← HB.out, hul] at hs
    have HI := Lib.hid hs
    have HL := Lib.hid (And.intro hul (sum_same huo))
    clear hg hn hul huo hs hon
    go_wp2_with fail
    refine HI.out.mono ?_
    rintro e w5 ⟨aI, cI, rfl, hg, hoI⟩
    have H5 := Lib.hid (And.intro (H4.out.1.kept hg) (And.intro (grownBy_trans H4.out.2.1 hg) (And.intro (grownBy_trans H4.out.2.2.1 hg) (And.intro (H4.out.2.2.2.1.kept hg) (And.intro (H4.out.2.2.2.2.1.kept hg) hoI)))))
    clear hg hoI HI
    go_wp2_with fail
    refine (eq_ints _ _ _ _ _ _ (i_own H5.out.2.2.2.2.2) (i_own (own_kept H3.out.2.2 H5.out.2.2.1)) (by omega)).mono ?_
    rintro e w6 ⟨rfl, hg⟩
    have H6 := Lib.hid (And.intro (H5.out.1.kept hg) (And.intro (grownBy_trans H5.out.2.1 hg) (And.intro (grownBy_trans H5.out.2.2.1 hg) (And.intro (H5.out.2.2.2.1.kept hg) (And.intro (H5.out.2.2.2.2.1.kept hg) (own_kept H5.out.2.2.2.2.2 hg))))))
    clear hg
    go_wp2_with fail
    refine (to_notes a0 cap0 l0 _ H6.out.1 HM.out.1 HM.out.2).mono ?_
    rintro e w7 ⟨us7, hul, huo, rfl, hg, hn⟩
    have hs := eq_notes _ _ l0.length l0.length us4 us7 w7 (H6.out.2.2.2.1.kept hg) hn (H4.out.2.2.2.2.2.trans huo.symm) (by rw [HL.out.1]; exact HM.out.1) (o_all H4.out.2.2.2.2.2 HM.out.2)
    rw [HL.out.1] at hs
    have HE := Lib.hid hs
    have H7 := Lib.hid (And.intro (H6.out.1.kept hg) (And.intro (grownBy_trans H6.out.2.1 hg) (And.intro (grownBy_trans H6.out.2.2.1 hg) (And.intro (H6.out.2.2.2.2.1.kept hg) (own_kept H6.out.2.2.2.2.2 hg)))))
    clear hg hn hul huo hs
    go_wp2_with fail
    refine HE.out.mono ?_
    rintro e w8 ⟨rfl, hg⟩
    have H8 := Lib.hid (And.intro (H7.out.1.kept hg) (And.intro (grownBy_trans H7.out.2.1 hg) (And.intro (grownBy_trans H7.out.2.2.1 hg) (And.intro (H7.out.2.2.2.1.kept hg) (own_kept H7.out.2.2.2.2 hg)))))
    clear hg
    have hmk := mark_notes _ _ us4 w8 H8.out.2.2.2.1 (by rw [HL.out.1, HL.out.2]; exact hsum)
    rw [HL.out.1] at hmk
    have HMK := Lib.hid hmk
    clear hmk
    go_wp2_with fail
    refine HMK.out.mono ?_
    rintro e w9 ⟨⟨k, rfl, hk1, hk2⟩, hmid⟩
    have H9 := Lib.hid (And.intro (MidBy.grown H8.out.2.1 hmid H3.out.2.1.size) (And.intro (MidBy.grown H8.out.2.2.1 hmid (Nat.le_refl _)) (MidBy.own H8.out.2.2.2.2 hmid (Nat.le_refl _))))
    have hk0 : ¬ k < 0 := by omega
    clear hmid HMK
    go_wp2_with fail
    refine (eq_ints _ _ _ _ _ _ (i_own H9.out.2.2) (i_own (own_kept H3.out.2.2 H9.out.2.1)) (by omega)).mono ?_
    rintro e w10 ⟨rfl, hg⟩
    have H10 := Lib.hid (And.intro (grownBy_trans H9.out.1 hg) (And.intro (grownBy_trans H9.out.2.1 hg) (own_kept H9.out.2.2 hg)))
    clear hg
    go_wp2_with fail
    refine (imark_any 1 (by omega) (by omega) _ _ _ _ _ (by omega) H10.out.2.2).mono ?_
    rintro e w11 ⟨rfl, hg, ho⟩
    have H11 := Lib.hid (And.intro (grown_row_none H10.out.1 hg H10.out.2.2 (Nat.le_trans H3.out.2.1.size H4.out.2.2.1.size)) (And.intro (grown_row_none H10.out.2.1 hg H10.out.2.2 H4.out.2.2.1.size) ho))
    clear hg ho
    have hm0 : ¬ 1 + (L.length : Int) < 0 := by omega
    go_wp2_with fail
    refine (iheld_any 1 (by omega) (by omega) _ _ _ _ _ H11.out.2.2 (by omega)).mono ?_
    rintro e w12 ⟨rfl, hg⟩
    have H12 := Lib.hid (And.intro (grownBy_trans H11.out.1 hg) (And.intro (grownBy_trans H11.out.2.1 hg) (own_kept H11.out.2.2 hg)))
    clear hg
    go_wp2_with fail
    refine (to_notes a0 cap0 l0 _ (H0.out.1.kept H12.out.1) HM.out.1 HM.out.2).mono ?_
    rintro e w13 ⟨us13, hul, huo, rfl, hg, hn⟩
    have hs := ag_I _ l0.length us13 w13 hn
    rw [againN_same huo, ← HB.out, hul] at hs
    have HI := Lib.hid hs
    have H13 := Lib.hid (And.intro (grownBy_trans H12.out.1 hg) (And.intro (grownBy_trans H12.out.2.1 hg) (own_kept H12.out.2.2 hg)))
    clear hg hn hul huo hs
    go_wp2_with fail
    refine HI.out.mono ?_
    rintro e w14 ⟨aJ, cJ, rfl, hg, hoJ⟩
    have H14 := Lib.hid (And.intro (grownBy_trans H13.out.1 hg) (And.intro (grownBy_trans H13.out.2.1 hg) (And.intro (own_kept H13.out.2.2 hg) hoJ)))
    clear hg hoJ HI
    go_wp2_with fail
    refine (eq_ints _ _ _ _ _ _ (i_own H14.out.2.2.2) (i_own (own_kept H3.out.2.2 H14.out.2.1)) (by omega)).mono ?_
    rintro e w15 ⟨rfl, hg⟩
    have H15 := Lib.hid (And.intro (grownBy_trans H14.out.1 hg) (own_kept H14.out.2.2.1 hg))
    clear hg
    go_wp2_with fail
    refine (iheld_any 1 (by omega) (by omega) _ _ _ _ _ H15.out.2 (by omega)).mono ?_
    rintro e w16 ⟨rfl, hg⟩
    have H16 := Lib.hid (grownBy_trans H15.out.1 hg)
    clear hg
    go_wp2_with fail
    go_ret
    exact ⟨rfl, below_new H16.out⟩

set_option maxRecDepth 100000 in
theorem lifted (os : Os) (started : os.Started) (H : Type) (enc : TypeId × Value → H) :
    ReturnsInHanded {} Try.checked os 4 .any (Rows.fnExactAgainSpec.pre6 enc Try.prog Try.f4 Rows.fnExactAgainRow.domain false) (Rows.fnExactAgainSpec.post enc Try.prog Try.f4 false true false false) := by
  refine returnsInHanded_of_change (C := Try.checked) own started (by kernel_rfl) Try.func4
    (ChangeSpec.witness6 (enc := enc) (C := Try.checked) false ⟨#[], #[.slice none 0 0], []⟩ 8 (by kernel_rfl) (by kernel_rfl) (by kernel_rfl) (by kernel_rfl)) ?_
  intro W base args ds gs before hval0 hW hcnd _
  have hval : ∀ (j : Nat) t v, Try.f4.params[j]? = some t → args[j]? = some v → Value.okWide Try.prog W .any base t v := hval0
  have hW' := hW
  obtain ⟨p, q, hA0, hV, rfl, hfz, hnd⟩ := hW
  have hA : DataW.TrodAll enc Try.prog W 0 (fun _ => true) true Try.f4.params.toList args.toList ds p := hA0
  rw [Try.params4] at hA hval
  obtain ⟨v0, vs0, d0, ds0, p0, q0, hargs, rfl, rfl, h0, r0⟩ := trodAll_cons hA
  obtain ⟨rfl, rfl, rfl⟩ := trodAll_nil r0
  obtain rfl : args = #[v0] := by cases args; simp_all
  obtain ⟨rfl, rfl⟩ := trodVars_none hV
  have k0 := h0
  have lt0 : ∀ x ∈ p0, x.block < W.heap.size := by obtain ⟨m, hm⟩ := k0; exact DataW.trod_lt m _ _ _ hm
  obtain ⟨a0, len0, cap0, rfl⟩ := okWide_slice Try.underlying22 (hval 0 22 v0 rfl rfl)
  obtain ⟨l0, e0, w0, n0, m0⟩ : ∃ l : List Nt, l.length = len0 ∧ NtAt W a0 l ∧ l.length ≤ maxLen ∧ ∀ x ∈ l, x.l.length ≤ maxLen := by
    obtain ⟨fuel, hf⟩ := h0
    rcases open_fours Try.underlying22 Try.underlying41 cells41 ⟨rfl, rfl, rfl, rfl⟩ (by refine ⟨?_, ?_, ?_, ?_⟩ <;> kernel_rfl) hf with hcs | ⟨x, l, c, n, hcs, hl, hm, hall⟩
    · simp [Value.cells] at hcs
      obtain ⟨rfl, rfl, rfl⟩ := hcs
      exact ⟨[], rfl, .inl rfl, Nat.zero_le _, by simp⟩
    · simp [Value.cells] at hcs
      obtain ⟨rfl, rfl, rfl⟩ := hcs
      obtain ⟨ps, hlen, hps⟩ := list_of (P := fun i (p : Nt) => NtX W x i p ∧ p.l.length ≤ maxLen) len0 (fun i hi => by
        obtain ⟨v0, v1, v2, v3, y0, y1, y2, y3, c0, c1, c2, c3, t0, t1, t2, t3⟩ := hall i hi
        obtain ⟨u0, e0, _, _⟩ := DataW.trod_int Try.underlying2 t0
        simp only [List.cons.injEq, and_true] at e0
        rw [e0] at c0
        obtain ⟨u1, e1, _, _⟩ := DataW.trod_int Try.underlying2 t1
        simp only [List.cons.injEq, and_true] at e1
        rw [e1] at c1
        obtain ⟨u2, e2, _, _⟩ := DataW.trod_int Try.underlying2 t2
        simp only [List.cons.injEq, and_true] at e2
        rw [e2] at c2
        obtain ⟨sa, slen, scap, e3⟩ := slice_form Try.underlying39 t3
        simp only [List.cons.injEq, and_true] at e3
        subst e3
        obtain ⟨sl, se, sw, sn⟩ : ∃ l : List Rg, l.length = slen ∧ RgAt W sa l ∧ l.length ≤ maxLen := by
          rcases Deep.open_slice_pairs Try.underlying39 Try.underlying63 cells63 rfl rfl (by kernel_rfl) (by kernel_rfl) t3 with ⟨hcs, _⟩ | ⟨x, l, c, m, n, V0, V1, D0, D1, P0, P1, hcs, _, hl, hm, hmm, _, hall⟩
          · simp at hcs
            obtain ⟨rfl, rfl, rfl⟩ := hcs
            exact ⟨[], rfl, .inl rfl, Nat.zero_le _⟩
          · simp at hcs
            obtain ⟨rfl, rfl, rfl⟩ := hcs
            have hmc : m = scap := by simpa using hmm
            obtain ⟨ps, hlen, hps⟩ := list_of (P := fun i (p : Rg) => W.cell? (x.add (i * 2)) = some (.int .i64 p.1) ∧ W.cell? (x.add (i * 2 + 1)) = some (.int .i64 p.2)) slen (fun i hi => by
              obtain ⟨c0, c1, t0, t1⟩ := hall i (by omega)
              obtain ⟨u, e0, _, wu⟩ := DataW.trod_int Try.underlying2 t0
              obtain ⟨s, e1, _, ws⟩ := DataW.trod_int Try.underlying2 t1
              simp only [List.cons.injEq, and_true] at e0 e1
              rw [e0] at c0
              rw [e1] at c1
              exact ⟨(u, s), c0, c1⟩)
            exact ⟨ps, hlen, rgAt_of fun i hi => ⟨(hps i hi).1, (hps i hi).2⟩, by omega⟩
        subst se
        exact ⟨⟨u0, u1, u2, sa, scap, sl⟩, ⟨c0, c1, c2, c3, sw⟩, sn⟩)
      refine ⟨ps, hlen, ntAt_of fun i hi => (hps i hi).1, by omega, fun x hx => ?_⟩
      obtain ⟨i, hi, rfl⟩ := List.getElem_of_mem hx
      exact (hps i hi).2
  subst e0
  clear hA0 hval0
  refine (walk a0 cap0 l0 W w0 n0 m0).mono fun e W' ⟨he, bel⟩ => ?_
  subst he
  exact ⟨_, rfl, _, _, _, [], _, [], hW', trodAll_mk1 (shut_bool Try.underlying4 _), (trodAll_cons_mk (Below.trod laidOut (by kernel_rfl) (of_decide_eq_true (by kernel_rfl)) k0 bel lt0) trodAll_mk0), rfl, bel.frame _, fun h => by cases h⟩

theorem over : Rows.fnExactAgainRow.holds Try.pinned (OpenSpec.ofChange Rows.fnExactAgainSpec) :=
  OpenClaim.holds_of_wide 4 Try.f4 rfl rfl rfl rfl rfl rfl rfl ⟨rfl, rfl, rfl, rfl, rfl⟩ rfl rfl rfl rfl rfl (by kernel_rfl) Try.func4 (by kernel_rfl)
    (of_decide_eq_true (by kernel_rfl)) (by unfold Func.isWrapper; first | (rw [if_pos (by decide +kernel)]; kernel_rfl) | (rw [if_neg (by decide +kernel)]; exact ⟨rfl, rfl⟩))
    (fun os started H enc _ => lifted os started H enc)

theorem proved : Rows.FnExactAgainSaid := over
end Go.Proofs.Ytldcbiahicmgnaa.fnExactAgain
