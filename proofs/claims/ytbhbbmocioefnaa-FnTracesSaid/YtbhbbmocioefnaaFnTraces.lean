/- Packets come back from their trace, in either order, at all drawn bytes; no condition. -/
import Derived.Test.YtbhbbmocioefnaaRows
import Derived.Test.YtbhbbmocioefnaaDrawTr
import Derived.WalkKit
import Derived.ProofKit
import Derived.OpenShut
import Derived.ShutString
import Derived.ChangeOld
import Derived.Below
import Derived.Lib.SmallJoins
namespace Go.Proofs.Ytbhbbmocioefnaa.fnTraces
open Go.ChangeShapes Go.WideShapes Go.ChangeAt Go.RowKit Go.Joins
open Go.ChangeMaps (open_string shut_string)
set_option linter.unusedVariables false

theorem own : ownKnob Try.prog.godebug = none := by kernel_rfl
theorem laidOut : laidOutB Try.prog = true := by kernel_rfl


def IsRow (k : IntKind) (w : World) (a : Option Addr) (len cap : Nat) (zs : List Int) : Prop :=
  (a = none ∧ len = 0 ∧ cap = 0 ∧ zs = []) ∨
  ∃ x, a = some x ∧ len ≤ cap ∧ cap ≤ maxLen ∧ zs.length = cap ∧ (∀ i, i < zs.length → w.cell? (x.add i) = some (.int k (zs.getD i 0))) ∧ ∀ n ∈ zs, (Lit.int k n).wf = true

theorem trace_not (l : List Pk) (big : Bool) (h : ¬ traceOk l) : traceL l big = [] := if_neg h
theorem abcd_ok : blockOk 5 [97, 98, 99, 100] := by decide
theorem impl_of (s : List UInt8) (l : List Pk) (h : readT s = (l, -1)) (w : World) : Calls Try.prog 10 #[.string ⟨s.toArray⟩] w (RtPost w l (-1)) := by
  have := read_impl s w
  rw [h] at this
  exact this

set_option maxRecDepth 100000 in
set_option maxHeartbeats 1000000 in
theorem walk (a0 : Option Addr) (len0 cap0 : Nat) (z0 : List Int) (w : World) (w0 : IsRow .u8 w a0 len0 cap0 z0) :
    Calls Try.prog 3 #[.slice a0 len0 cap0] w fun e w' => e = .returned (.bool true) ∧ Below w.heap.size w w' := by
  have hc := code_of w0
  clear w0
  have HC := Lib.hid hc
  clear hc
  by_cases hbig : 1048576 < len0
  · go_enter Try.func3, Try.ntmps3
    go_wp2_with (go_at_call 6; refine (big_any _ _ _ _).mono ?_; rintro e w' ⟨rfl, rfl⟩)
    go_ret
    exact ⟨rfl, Below.refl _ _⟩
  · go_enter Try.func3, Try.ntmps3
    go_wp2_with (go_at_call 6; refine (big_any _ _ _ _).mono ?_; rintro e w' ⟨rfl, rfl⟩)
    refine (draw_traceb _ _ _ _ HC.out).mono ?_
    rintro e w1 ⟨l, v, o, hl, hL, rfl, hg, hown⟩
    obtain ⟨ao, cp, rfl⟩ := own_slice hown
    have H1 := Lib.hid (And.intro hg (And.intro (pk_own hown) hL))
    clear hg hown hL
    go_wp2_with fail
    refine (trace_impl _ _ _ _ _ H1.out.2.1).mono ?_
    rintro e w2 ⟨rfl, hg⟩
    have H2 := Lib.hid (And.intro (grownBy_trans H1.out.1 hg) (H1.out.2.1.kept hg))
    clear hg
    go_wp2_with fail
    refine (draw_rtrace _ _ _ _ (HC.out.kept H2.out.1)).mono ?_
    rintro e w3 ⟨t, ht, rfl, hg⟩
    have H3 := Lib.hid (And.intro (grownBy_trans H2.out.1 hg) (H2.out.2.kept hg))
    clear hg
    have hI := read_impl t
    have hS := read_spec t
    have hP := readT_place t
    have hn := readT_few t
    generalize (readT t).1 = x at *
    generalize (readT t).2 = pl at *
    have HR := Lib.hid (And.intro hI hS)
    have HP := Lib.hid hP
    clear hI hS hP
    go_wp2_with fail
    refine (HR.out.1 _).mono ?_
    rintro e w4 ⟨v4, rfl, hg, ho⟩
    obtain ⟨a4, c4, rfl⟩ := own_slice ho
    have H4 := Lib.hid (And.intro (grownBy_trans H3.out.1 hg) (And.intro (H3.out.2.kept hg) (pk_own ho)))
    clear hg ho
    go_wp2_with fail
    refine (HR.out.2 _).mono ?_
    rintro e w5 ⟨v5, rfl, hg, ho⟩
    obtain ⟨a5, c5, rfl⟩ := own_slice ho
    have H5 := Lib.hid (And.intro (grownBy_trans H4.out.1 hg) (And.intro (H4.out.2.1.kept hg) (And.intro (H4.out.2.2.kept hg) (pk_own ho))))
    clear hg ho
    go_wp2_with fail
    refine (trace_spec _ _ _ _ _ H5.out.2.1 (fun x hx => by have := (H1.out.2.2 x hx).2; omega)).mono ?_
    rintro e w6 ⟨rfl, hg⟩
    have H6 := Lib.hid (And.intro (grownBy_trans H5.out.1 hg) (And.intro (H5.out.2.1.kept hg) (And.intro (H5.out.2.2.1.kept hg) (H5.out.2.2.2.kept hg))))
    clear hg
    go_wp2_with fail
    refine (same_packets _ _ _ _ _ _ H6.out.2.2.1 H6.out.2.2.2 (by omega)).mono ?_
    rintro e w7 ⟨rfl, hg⟩
    have H7 := Lib.hid (And.intro (grownBy_trans H6.out.1 hg) (H6.out.2.1.kept hg))
    clear hg
    rcases HP.out with rfl | ⟨rfl, hp1, hp2⟩
    · by_cases hok : traceOk l
      · have HE := Lib.hid (show traceL l o = traceT l o from if_pos hok)
        have hlen : (traceT l o).length ≤ 2048 := by rw [← HE.out]; exact traceL_len l o hl
        have hb := blockT_len 5 [97, 98, 99, 100] o abcd_ok
        have hR1 := read_back l o [] hok (.inl rfl) (by rw [List.append_nil]; omega)
        rw [List.append_nil] at hR1
        have hR2 := read_back l o (blockT 5 [97, 98, 99, 100] o) hok (.inr ⟨5, [97, 98, 99, 100], abcd_ok, by omega, by omega, rfl⟩) (by rw [List.length_append, hb]; simp; omega)
        have HR1 := Lib.hid (impl_of _ l hR1)
        have HR2 := Lib.hid (impl_of _ l hR2)
        have hne : (traceT l o).isEmpty = false := by
          have := headL_len o
          have h48 : 48 ≤ (traceT l o).length := by rw [traceT, List.length_append]; omega
          cases hh : traceT l o with
          | nil => rw [hh] at h48; simp at h48
          | cons a b => rfl
        clear hR1 hR2 hok
        rw [HE.out]
        generalize traceT l o = s at *
        simp only [List.length_cons, List.length_nil] at hb
        have HBL := Lib.hid (show blockL 5 [97, 98, 99, 100] o = blockT 5 [97, 98, 99, 100] o from if_pos abcd_ok)
        go_wp2_with fail
        refine (HR1.out _).mono ?_
        rintro e w8 ⟨v8, rfl, hg, ho⟩
        obtain ⟨a8, c8, rfl⟩ := own_slice ho
        have H8 := Lib.hid (And.intro (grownBy_trans H7.out.1 hg) (And.intro (H7.out.2.kept hg) (pk_own ho)))
        clear hg ho
        go_wp2_with fail
        refine (block_impl 5 [97, 98, 99, 100] o _ (by simp)).mono ?_
        rintro e w9 ⟨rfl, hg⟩
        rw [HBL.out]
        have H9 := Lib.hid (And.intro (grownBy_trans H8.out.1 hg) (And.intro (H8.out.2.1.kept hg) (H8.out.2.2.kept hg)))
        clear hg
        generalize blockT 5 [97, 98, 99, 100] o = bb at *
        have hk1 : ¬ 9223372036854775807 < s.length + bb.length := by omega
        go_wp2_with fail
        rw [show ({ data := s.toArray } ++ { data := bb.toArray } : ByteArray) = ⟨(s ++ bb).toArray⟩ from ba_append _ _]
        refine (HR2.out _).mono ?_
        rintro e w10 ⟨v10, rfl, hg, ho⟩
        obtain ⟨a10, c10, rfl⟩ := own_slice ho
        have H10 := Lib.hid (And.intro (grownBy_trans H9.out.1 hg) (And.intro (H9.out.2.1.kept hg) (And.intro (H9.out.2.2.kept hg) (pk_own ho))))
        clear hg ho
        go_wp2_with fail
        refine (same_packets _ _ _ _ _ _ H10.out.2.2.1 H10.out.2.1 (by omega)).mono ?_
        rintro e w11 ⟨rfl, hg⟩
        have H11 := Lib.hid (And.intro (grownBy_trans H10.out.1 hg) (And.intro (H10.out.2.1.kept hg) (H10.out.2.2.2.kept hg)))
        clear hg
        go_wp2_with fail
        refine (same_packets _ _ _ _ _ _ H11.out.2.2 H11.out.2.1 (by omega)).mono ?_
        rintro e w12 ⟨rfl, hg⟩
        have H12 := Lib.hid (grownBy_trans H11.out.1 hg)
        clear hg
        go_wp2_with fail
        go_ret
        exact ⟨rfl, below_new H12.out⟩
      · have HE := Lib.hid (trace_not l o hok)
        clear hok
        rw [HE.out]
        go_wp2_with fail
        go_ret
        exact ⟨rfl, below_new H7.out.1⟩
    · have hb1 : ¬ (t.length : Int) < pl := by omega
      by_cases hok : traceOk l
      · have HE := Lib.hid (show traceL l o = traceT l o from if_pos hok)
        have hlen : (traceT l o).length ≤ 2048 := by rw [← HE.out]; exact traceL_len l o hl
        have hb := blockT_len 5 [97, 98, 99, 100] o abcd_ok
        have hR1 := read_back l o [] hok (.inl rfl) (by rw [List.append_nil]; omega)
        rw [List.append_nil] at hR1
        have hR2 := read_back l o (blockT 5 [97, 98, 99, 100] o) hok (.inr ⟨5, [97, 98, 99, 100], abcd_ok, by omega, by omega, rfl⟩) (by rw [List.length_append, hb]; simp; omega)
        have HR1 := Lib.hid (impl_of _ l hR1)
        have HR2 := Lib.hid (impl_of _ l hR2)
        have hne : (traceT l o).isEmpty = false := by
          have := headL_len o
          have h48 : 48 ≤ (traceT l o).length := by rw [traceT, List.length_append]; omega
          cases hh : traceT l o with
          | nil => rw [hh] at h48; simp at h48
          | cons a b => rfl
        clear hR1 hR2 hok
        rw [HE.out]
        generalize traceT l o = s at *
        simp only [List.length_cons, List.length_nil] at hb
        have HBL := Lib.hid (show blockL 5 [97, 98, 99, 100] o = blockT 5 [97, 98, 99, 100] o from if_pos abcd_ok)
        go_wp2_with fail
        refine (HR1.out _).mono ?_
        rintro e w8 ⟨v8, rfl, hg, ho⟩
        obtain ⟨a8, c8, rfl⟩ := own_slice ho
        have H8 := Lib.hid (And.intro (grownBy_trans H7.out.1 hg) (And.intro (H7.out.2.kept hg) (pk_own ho)))
        clear hg ho
        go_wp2_with fail
        refine (block_impl 5 [97, 98, 99, 100] o _ (by simp)).mono ?_
        rintro e w9 ⟨rfl, hg⟩
        rw [HBL.out]
        have H9 := Lib.hid (And.intro (grownBy_trans H8.out.1 hg) (And.intro (H8.out.2.1.kept hg) (H8.out.2.2.kept hg)))
        clear hg
        generalize blockT 5 [97, 98, 99, 100] o = bb at *
        have hk1 : ¬ 9223372036854775807 < s.length + bb.length := by omega
        go_wp2_with fail
        rw [show ({ data := s.toArray } ++ { data := bb.toArray } : ByteArray) = ⟨(s ++ bb).toArray⟩ from ba_append _ _]
        refine (HR2.out _).mono ?_
        rintro e w10 ⟨v10, rfl, hg, ho⟩
        obtain ⟨a10, c10, rfl⟩ := own_slice ho
        have H10 := Lib.hid (And.intro (grownBy_trans H9.out.1 hg) (And.intro (H9.out.2.1.kept hg) (And.intro (H9.out.2.2.kept hg) (pk_own ho))))
        clear hg ho
        go_wp2_with fail
        refine (same_packets _ _ _ _ _ _ H10.out.2.2.1 H10.out.2.1 (by omega)).mono ?_
        rintro e w11 ⟨rfl, hg⟩
        have H11 := Lib.hid (And.intro (grownBy_trans H10.out.1 hg) (And.intro (H10.out.2.1.kept hg) (H10.out.2.2.2.kept hg)))
        clear hg
        go_wp2_with fail
        refine (same_packets _ _ _ _ _ _ H11.out.2.2 H11.out.2.1 (by omega)).mono ?_
        rintro e w12 ⟨rfl, hg⟩
        have H12 := Lib.hid (grownBy_trans H11.out.1 hg)
        clear hg
        go_wp2_with fail
        go_ret
        exact ⟨rfl, below_new H12.out⟩
      · have HE := Lib.hid (trace_not l o hok)
        clear hok
        rw [HE.out]
        go_wp2_with fail
        go_ret
        exact ⟨rfl, below_new H7.out.1⟩

set_option maxRecDepth 100000 in
theorem lifted (os : Os) (started : os.Started) (H : Type) (enc : TypeId × Value → H) :
    ReturnsInHanded {} Try.checked os 3 .any (Rows.fnTracesSpec.pre6 enc Try.prog Try.f3 Rows.fnTracesRow.domain false) (Rows.fnTracesSpec.post enc Try.prog Try.f3 false true false false) := by
  refine returnsInHanded_of_change (C := Try.checked) own started (by kernel_rfl) Try.func3
    (ChangeSpec.witness6 (enc := enc) (C := Try.checked) false ⟨#[], #[.slice none 0 0], []⟩ 8 (by kernel_rfl) (by kernel_rfl) (by kernel_rfl) (by kernel_rfl)) ?_
  intro W base args ds gs before hval0 hW hcnd _
  have hval : ∀ (j : Nat) t v, Try.f3.params[j]? = some t → args[j]? = some v → Value.okWide Try.prog W .any base t v := hval0
  have hW' := hW
  obtain ⟨p, q, hA0, hV, rfl, hfz, hnd⟩ := hW
  have hA : DataW.TrodAll enc Try.prog W 0 (fun _ => true) true Try.f3.params.toList args.toList ds p := hA0
  rw [Try.params3] at hA hval
  obtain ⟨v0, vs0, d0, ds0, p0, q0, hargs, rfl, rfl, h0, r0⟩ := trodAll_cons hA
  obtain ⟨rfl, rfl, rfl⟩ := trodAll_nil r0
  obtain rfl : args = #[v0] := by cases args; simp_all
  obtain ⟨rfl, rfl⟩ := trodVars_none hV
  have k0 := h0
  have lt0 : ∀ x ∈ p0, x.block < W.heap.size := by obtain ⟨m, hm⟩ := k0; exact DataW.trod_lt m _ _ _ hm
  obtain ⟨a0, len0, cap0, rfl⟩ := okWide_slice Try.underlying22 (hval 0 22 v0 rfl rfl)
  obtain ⟨z0, w0⟩ : ∃ zs, IsRow .u8 W a0 len0 cap0 zs := by
    obtain ⟨fuel, hf⟩ := h0
    rcases open_ints Try.underlying22 Try.underlying5 (by kernel_rfl) hf with ⟨hcs, _⟩ | ⟨x, l, c, zs, hcs, _, hl, hm, hz, _, hcell, hwz⟩
    · simp [Value.cells] at hcs
      obtain ⟨rfl, rfl, rfl⟩ := hcs
      exact ⟨[], .inl ⟨rfl, rfl, rfl, rfl⟩⟩
    · simp [Value.cells] at hcs
      obtain ⟨rfl, rfl, rfl⟩ := hcs
      exact ⟨zs, .inr ⟨_, rfl, hl, hm, by simpa using hz, hcell, hwz⟩⟩
  clear hA0 hval0
  refine (walk a0 len0 cap0 z0 W w0).mono fun e W' ⟨he, bel⟩ => ?_
  subst he
  exact ⟨_, rfl, _, _, _, [], _, [], hW', trodAll_mk1 (shut_bool Try.underlying4 _), (trodAll_cons_mk (Below.trod laidOut (by kernel_rfl) (of_decide_eq_true (by kernel_rfl)) k0 bel lt0) trodAll_mk0), rfl, bel.frame _, fun h => by cases h⟩

theorem over : Rows.fnTracesRow.holds Try.pinned (OpenSpec.ofChange Rows.fnTracesSpec) :=
  OpenClaim.holds_of_wide 3 Try.f3 rfl rfl rfl rfl rfl rfl rfl ⟨rfl, rfl, rfl, rfl, rfl⟩ rfl rfl rfl rfl rfl (by kernel_rfl) Try.func3 (by kernel_rfl)
    (of_decide_eq_true (by kernel_rfl)) (by unfold Func.isWrapper; first | (rw [if_pos (by decide +kernel)]; kernel_rfl) | (rw [if_neg (by decide +kernel)]; exact ⟨rfl, rfl⟩))
    (fun os started H enc _ => lifted os started H enc)

theorem proved : Rows.FnTracesSaid := over
end Go.Proofs.Ytbhbbmocioefnaa.fnTraces
