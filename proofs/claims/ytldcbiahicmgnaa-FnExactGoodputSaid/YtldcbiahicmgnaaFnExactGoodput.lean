/- For every list of notes the law FnExactGoodput answers true and leaves its argument as it was; no condition. -/
import Derived.Test.YtldcbiahicmgnaaRows
import Derived.Test.YtldcbiahicmgnaaDraw
import Derived.Test.YtldcbiahicmgnaaNg
import Derived.WalkKit
import Derived.ProofKit
import Derived.OpenShut
import Derived.ShutString
import Derived.ChangeOld
import Derived.Below
import Derived.Lib.SmallJoins
import Derived.Deep.SlicePairs
namespace Go.Proofs.Ytldcbiahicmgnaa.fnExactGoodput
open Go.ChangeShapes Go.WideShapes Go.ChangeAt Go.RowKit Go.Joins
open Go.ChangeMaps (open_string shut_string)
set_option linter.unusedVariables false

theorem own : ownKnob Try.prog.godebug = none := by kernel_rfl
theorem laidOut : laidOutB Try.prog = true := by kernel_rfl
theorem cells41 : Try.prog.cellsOf 41 = 4 := by kernel_rfl
theorem cells63 : Try.prog.cellsOf 63 = 2 := by kernel_rfl

theorem o_all {t u : List Nt} (h : u.map Nt.o = t.map Nt.o) {N : Nat} (hm : ∀ x ∈ t, x.l.length ≤ N) : ∀ x ∈ u, x.l.length ≤ N := by
  intro x hx
  have hm2 : x.o ∈ t.map Nt.o := by rw [← h]; exact List.mem_map_of_mem hx
  obtain ⟨y, hy, e⟩ := List.mem_map.1 hm2
  have := hm y hy
  simp only [Nt.o, No.mk.injEq] at e
  rw [← e.2.2.2]
  exact this

set_option maxRecDepth 100000 in
set_option maxHeartbeats 1000000 in
theorem walk (a0 : Option Addr) (cap0 : Nat) (l0 : List Nt) (w : World) (w0 : NtAt w a0 l0) (n0 : l0.length ≤ maxLen) (m0 : ∀ x ∈ l0, x.l.length ≤ maxLen) :
    Calls Try.prog 3 #[.slice a0 l0.length cap0] w fun e w' => e = .returned (.bool true) ∧ Below w.heap.size w w' := by
  unfold maxLen at n0
  have H0 := Lib.hid (And.intro w0 m0)
  clear w0 m0
  go_enter Try.func3, Try.ntmps3
  go_wp2_with fail
  refine (sz_notes _ _ _ _ H0.out.1 (by unfold maxLen; exact n0) H0.out.2).mono ?_
  rintro e w1 ⟨⟨r, rfl, hr⟩, hg⟩
  have H1 := Lib.hid (And.intro (H0.out.1.kept hg) hg)
  clear hg
  by_cases hr0 : r < 0
  · go_wp2_with fail
    go_ret
    exact ⟨rfl, below_new H1.out.2⟩
  · have HM := Lib.hid (hr (by omega))
    clear hr
    obtain ⟨bb, hbb⟩ : ∃ b, b = goodN l0 := ⟨_, rfl⟩
    have HB := Lib.hid hbb
    clear hbb
    go_wp2_with fail
    refine (to_notes a0 cap0 l0 _ H1.out.1 HM.out.1 HM.out.2).mono ?_
    rintro e w2 ⟨us2, hul, huo, rfl, hg, hn⟩
    have hs := good_S _ l0.length us2 w2 hn (by rw [hul]; exact HM.out.1) (o_all huo HM.out.2)
    rw [goodN_same huo, ← HB.out, hul] at hs
    have HS := Lib.hid hs
    have H2 := Lib.hid (And.intro (H1.out.1.kept hg) (grownBy_trans H1.out.2 hg))
    clear hg hn hul huo hs
    go_wp2_with fail
    refine HS.out.mono ?_
    rintro e w3 ⟨rfl, hg⟩
    have H3 := Lib.hid (And.intro (H2.out.1.kept hg) (grownBy_trans H2.out.2 hg))
    clear hg
    go_wp2_with fail
    refine (to_notes a0 cap0 l0 _ H3.out.1 HM.out.1 HM.out.2).mono ?_
    rintro e w4 ⟨us4, hul, huo, rfl, hg, hn⟩
    have H4 := Lib.hid (And.intro (H3.out.1.kept hg) (And.intro (grownBy_trans H3.out.2 hg) (And.intro hn huo)))
    have hs := good_I _ l0.length us4 w4 hn
    rw [goodN_same huo, ← HB.out, hul] at hs
    have HI := Lib.hid hs
    have HL := Lib.hid hul
    clear hg hn hul huo hs
    go_wp2_with fail
    refine HI.out.mono ?_
    rintro e w5 ⟨rfl, hg⟩
    have H5 := Lib.hid (And.intro (H4.out.1.kept hg) (And.intro (grownBy_trans H4.out.2.1 hg) (And.intro (H4.out.2.2.1.kept hg) H4.out.2.2.2)))
    clear hg
    go_wp2_with fail
    refine (to_notes a0 cap0 l0 _ H5.out.1 HM.out.1 HM.out.2).mono ?_
    rintro e w6 ⟨us6, hul, huo, rfl, hg, hn⟩
    have hs := eq_notes _ _ l0.length l0.length us4 us6 w6 (H5.out.2.2.1.kept hg) hn (H5.out.2.2.2.trans huo.symm) (by rw [HL.out]; exact HM.out.1) (o_all H5.out.2.2.2 HM.out.2)
    rw [HL.out] at hs
    have HE := Lib.hid hs
    have H6 := Lib.hid (grownBy_trans H5.out.2.1 hg)
    clear hg hn hul huo hs
    go_wp2_with fail
    refine HE.out.mono ?_
    rintro e w7 ⟨rfl, hg⟩
    have H7 := Lib.hid (grownBy_trans H6.out hg)
    clear hg
    go_wp2_with fail
    go_ret
    exact ⟨rfl, below_new H7.out⟩

set_option maxRecDepth 100000 in
theorem lifted (os : Os) (started : os.Started) (H : Type) (enc : TypeId × Value → H) :
    ReturnsInHanded {} Try.checked os 3 .any (Rows.fnExactGoodputSpec.pre6 enc Try.prog Try.f3 Rows.fnExactGoodputRow.domain false) (Rows.fnExactGoodputSpec.post enc Try.prog Try.f3 false true false false) := by
  refine returnsInHanded_of_change (C := Try.checked) own started (by kernel_rfl) Try.func3
    (ChangeSpec.witness6 (enc := enc) (C := Try.checked) false ⟨#[], #[.slice none 0 0], []⟩ 8 (by kernel_rfl) (by kernel_rfl) (by kernel_rfl) (by kernel_rfl)) ?_
  intro W base args ds gs before hval0 hW hcnd _
  have hval : ∀ (j : Nat) t v, Try.f3.params[j]? = some t → args[j]? = some v → Value.okWide Try.prog W .any base t v := hval0
  have hW' := hW
  obtain ⟨p, q, hA0, hV, rfl, hfz, hnd⟩ := hW
  have hA : DataW.TrodAll enc Try.prog W 0 (fun _ => true) true Try.f3.params.toList args.toList ds p := hA0
  rw [Try.params3] at hA hval
  obtain ⟨v0, vs0, d0, ds0, p0, q0, hargs, rfl, rfl, h0, r0⟩ := trodAll_cons hA
  obtain ⟨rfl, rfl, rfl⟩ := trodAll_nil r0
  obtain rfl : args = #[v0] := by cases args; simp_all
  obtain ⟨rfl, rfl⟩ := trodVars_none hV
  have k0 := h0
  have lt0 : ∀ x ∈ p0, x.block < W.heap.size := by obtain ⟨m, hm⟩ := k0; exact DataW.trod_lt m _ _ _ hm
  obtain ⟨a0, len0, cap0, rfl⟩ := okWide_slice Try.underlying22 (hval 0 22 v0 rfl rfl)
  obtain ⟨l0, e0, w0, n0, m0⟩ : ∃ l : List Nt, l.length = len0 ∧ NtAt W a0 l ∧ l.length ≤ maxLen ∧ ∀ x ∈ l, x.l.length ≤ maxLen := by
    obtain ⟨fuel, hf⟩ := h0
    rcases open_fours Try.underlying22 Try.underlying41 cells41 ⟨rfl, rfl, rfl, rfl⟩ (by refine ⟨?_, ?_, ?_, ?_⟩ <;> kernel_rfl) hf with hcs | ⟨x, l, c, n, hcs, hl, hm, hall⟩
    · simp [Value.cells] at hcs
      obtain ⟨rfl, rfl, rfl⟩ := hcs
      exact ⟨[], rfl, .inl rfl, Nat.zero_le _, by simp⟩
    · simp [Value.cells] at hcs
      obtain ⟨rfl, rfl, rfl⟩ := hcs
      obtain ⟨ps, hlen, hps⟩ := list_of (P := fun i (p : Nt) => NtX W x i p ∧ p.l.length ≤ maxLen) len0 (fun i hi => by
        obtain ⟨v0, v1, v2, v3, y0, y1, y2, y3, c0, c1, c2, c3, t0, t1, t2, t3⟩ := hall i hi
        obtain ⟨u0, e0, _, _⟩ := DataW.trod_int Try.underlying2 t0
        simp only [List.cons.injEq, and_true] at e0
        rw [e0] at c0
        obtain ⟨u1, e1, _, _⟩ := DataW.trod_int Try.underlying2 t1
        simp only [List.cons.injEq, and_true] at e1
        rw [e1] at c1
        obtain ⟨u2, e2, _, _⟩ := DataW.trod_int Try.underlying2 t2
        simp only [List.cons.injEq, and_true] at e2
        rw [e2] at c2
        obtain ⟨sa, slen, scap, e3⟩ := slice_form Try.underlying39 t3
        simp only [List.cons.injEq, and_true] at e3
        subst e3
        obtain ⟨sl, se, sw, sn⟩ : ∃ l : List Rg, l.length = slen ∧ RgAt W sa l ∧ l.length ≤ maxLen := by
          rcases Deep.open_slice_pairs Try.underlying39 Try.underlying63 cells63 rfl rfl (by kernel_rfl) (by kernel_rfl) t3 with ⟨hcs, _⟩ | ⟨x, l, c, m, n, V0, V1, D0, D1, P0, P1, hcs, _, hl, hm, hmm, _, hall⟩
          · simp at hcs
            obtain ⟨rfl, rfl, rfl⟩ := hcs
            exact ⟨[], rfl, .inl rfl, Nat.zero_le _⟩
          · simp at hcs
            obtain ⟨rfl, rfl, rfl⟩ := hcs
            have hmc : m = scap := by simpa using hmm
            obtain ⟨ps, hlen, hps⟩ := list_of (P := fun i (p : Rg) => W.cell? (x.add (i * 2)) = some (.int .i64 p.1) ∧ W.cell? (x.add (i * 2 + 1)) = some (.int .i64 p.2)) slen (fun i hi => by
              obtain ⟨c0, c1, t0, t1⟩ := hall i (by omega)
              obtain ⟨u, e0, _, wu⟩ := DataW.trod_int Try.underlying2 t0
              obtain ⟨s, e1, _, ws⟩ := DataW.trod_int Try.underlying2 t1
              simp only [List.cons.injEq, and_true] at e0 e1
              rw [e0] at c0
              rw [e1] at c1
              exact ⟨(u, s), c0, c1⟩)
            exact ⟨ps, hlen, rgAt_of fun i hi => ⟨(hps i hi).1, (hps i hi).2⟩, by omega⟩
        subst se
        exact ⟨⟨u0, u1, u2, sa, scap, sl⟩, ⟨c0, c1, c2, c3, sw⟩, sn⟩)
      refine ⟨ps, hlen, ntAt_of fun i hi => (hps i hi).1, by omega, fun x hx => ?_⟩
      obtain ⟨i, hi, rfl⟩ := List.getElem_of_mem hx
      exact (hps i hi).2
  subst e0
  clear hA0 hval0
  refine (walk a0 cap0 l0 W w0 n0 m0).mono fun e W' ⟨he, bel⟩ => ?_
  subst he
  exact ⟨_, rfl, _, _, _, [], _, [], hW', trodAll_mk1 (shut_bool Try.underlying4 _), (trodAll_cons_mk (Below.trod laidOut (by kernel_rfl) (of_decide_eq_true (by kernel_rfl)) k0 bel lt0) trodAll_mk0), rfl, bel.frame _, fun h => by cases h⟩

theorem over : Rows.fnExactGoodputRow.holds Try.pinned (OpenSpec.ofChange Rows.fnExactGoodputSpec) :=
  OpenClaim.holds_of_wide 3 Try.f3 rfl rfl rfl rfl rfl rfl rfl ⟨rfl, rfl, rfl, rfl, rfl⟩ rfl rfl rfl rfl rfl (by kernel_rfl) Try.func3 (by kernel_rfl)
    (of_decide_eq_true (by kernel_rfl)) (by unfold Func.isWrapper; first | (rw [if_pos (by decide +kernel)]; kernel_rfl) | (rw [if_neg (by decide +kernel)]; exact ⟨rfl, rfl⟩))
    (fun os started H enc _ => lifted os started H enc)

theorem proved : Rows.FnExactGoodputSaid := over
end Go.Proofs.Ytldcbiahicmgnaa.fnExactGoodput
