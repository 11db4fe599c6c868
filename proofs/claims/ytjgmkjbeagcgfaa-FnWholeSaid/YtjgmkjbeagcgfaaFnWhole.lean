/- For every code the law FnWhole answers true and leaves its argument as it was; no condition. -/
import Derived.Test.YtjgmkjbeagcgfaaRows
import Derived.Test.YtjgmkjbeagcgfaaDraw
import Derived.Test.YtjgmkjbeagcgfaaFrD
import Derived.Test.YtjgmkjbeagcgfaaFrZ
import Derived.WalkKit
import Derived.ProofKit
import Derived.OpenShut
import Derived.ShutString
import Derived.ChangeOld
import Derived.Below
import Derived.Lib.SmallJoins
namespace Go.Proofs.Ytjgmkjbeagcgfaa.fnWhole
open Go.ChangeShapes Go.WideShapes Go.ChangeAt Go.RowKit Go.Joins
open Go.ChangeMaps (open_string shut_string)
set_option linter.unusedVariables false

theorem own : ownKnob Try.prog.godebug = none := by kernel_rfl
theorem laidOut : laidOutB Try.prog = true := by kernel_rfl


def IsRow (k : IntKind) (w : World) (a : Option Addr) (len cap : Nat) (zs : List Int) : Prop :=
  (a = none ∧ len = 0 ∧ cap = 0 ∧ zs = []) ∨
  ∃ x, a = some x ∧ len ≤ cap ∧ cap ≤ maxLen ∧ zs.length = cap ∧ (∀ i, i < zs.length → w.cell? (x.add i) = some (.int k (zs.getD i 0))) ∧ ∀ n ∈ zs, (Lit.int k n).wf = true

def WhRel (w : World) (l : List Fg) (i : Value) (wr : World) : Prop := ∃ k : Nat, k ≤ l.length ∧ i = .int .i64 k ∧ w.grownBy wr none

set_option maxRecDepth 100000 in
set_option maxHeartbeats 1500000 in
theorem walk (a0 : Option Addr) (len0 cap0 : Nat) (z0 : List Int) (w : World) (w0 : IsRow .u8 w a0 len0 cap0 z0) :
    Calls Try.prog 8 #[.slice a0 len0 cap0] w fun e w' => e = .returned (.bool true) ∧ Below w.heap.size w w' := by
  have H := Lib.hid (code_of w0)
  clear w0
  go_enter Try.func8, Try.ntmps8
  go_wp2_with fail
  refine (big_any _ _ _ _).mono ?_
  rintro e w' ⟨rfl, rfl⟩
  by_cases hb : 1048576 < len0
  · rw [decide_eq_true hb]
    go_wp2_with fail
    go_ret
    exact ⟨rfl, below_new (World.grownBy.refl _ _)⟩
  · rw [decide_eq_false hb]
    clear hb
    go_wp2_with fail
    refine (draw_wh _ _ _ _ H.out).mono ?_
    rintro e w0 ⟨al, cl, l, rfl, hg, hf, hl, hd⟩
    have H0 := Lib.hid (And.intro hg hf)
    clear hg hf
    go_wp2_with fail
    refine (whole_I _ _ _ _ H0.out.2 (by omega) (fun x hx => Nat.le_trans (hd x hx) (by decide))).mono ?_
    rintro e w1 ⟨rfl, hg⟩
    have H1 := Lib.hid (And.intro (grownBy_trans H0.out.1 hg) (H0.out.2.kept hg))
    clear hg
    have HW := Lib.hid (fun h => wh_of (l := l) h)
    go_wp2_with fail
    refine (whole_S _ _ _ _ H1.out.2 (by omega) (fun x hx => Nat.le_trans (hd x hx) (by decide))).mono ?_
    rintro e w2 ⟨rfl, hg⟩
    have H2 := Lib.hid (And.intro (grownBy_trans H1.out.1 hg) (H1.out.2.kept hg))
    clear hg
    generalize whS l = s at *
    generalize whOk l = o at *
    cases o
    · go_wp2_with fail
      go_ret
      exact ⟨by simp, below_new H2.out.1⟩
    · have hwp := HW.out rfl
      obtain ⟨x, r, rfl⟩ : ∃ x r, l = x :: r := by
        obtain ⟨y, hy, _⟩ := hwp.2.2.1
        cases l with
        | nil => simp at hy
        | cons x r => exact ⟨x, r, rfl⟩
      have HF := Lib.hid (whole_first hwp)
      have HI := Lib.hid (fun (y : Fg) (hy : y ∈ x :: r) => whole_in hwp hy)
      have HQ := Lib.hid hwp.1
      have HE := Lib.hid hwp.2.2.2.1
      have hx0 := (whole_in hwp (List.mem_cons_self ..))
      have hsl : (s.length : Int) ≤ 100000 := by
        obtain ⟨y, hy, hm⟩ := hwp.2.2.1
        rw [← hwp.2.2.2.1 y hy hm]
        obtain ⟨g1, g2, g3, g4, _⟩ := hwp.1 y hy
        unfold endX
        omega
      clear hwp
      rcases H2.out.2 with h0 | ⟨b, off, rfl, hbb, hc⟩
      · cases h0
      · obtain ⟨c0, c1, c2⟩ := hc 0 (by simp)
        clear hc hbb
        simp only [Nat.zero_mul, Nat.add_zero, List.getElem_cons_zero] at c0 c1 c2
        unfold endX at hx0
        have hw1 : IntKind.i64.wrap (8 * x.f) = 8 * x.f := IntWalk.i64_in _ (by omega)
        have hln : (0 : Int) < ((x :: r).length : Int) := by simp
        have gA := Lib.hid (World.grownBy_alloc w2 (.cells #[.int .i64 x.f, .bool x.m, .string ⟨x.d.toArray⟩] 26) none)
        obtain ⟨b0, b1, b2⟩ := box3 w2 (.int .i64 x.f) (.bool x.m) (.string ⟨x.d.toArray⟩) 26
        have H3 := Lib.hid (And.intro (grownBy_trans H2.out.1 gA.out) (H2.out.2.kept gA.out))
        generalize hll : (x :: r : List Fg) = l at *
        have HL := Lib.hid hll
        clear hll
        go_wp2_with fail
        generalize w2.alloc (.cells #[.int .i64 x.f, .bool x.m, .string ⟨x.d.toArray⟩] 26) = w3 at *
        generalize w2.heap.size = X at *
        go_loopw [10] (fun i wr => WhRel w3 l i wr) (fun i _ => l.length - (intOf i).toNat)
        case atStart => exact ⟨0, Nat.zero_le _, rfl, World.grownBy.refl _ _⟩
        case round =>
          clear c0 c1 c2
          obtain ⟨k, hk, rfl, hgk⟩ := hrel
          have HS := Lib.hid hgk
          clear hgk
          by_cases hlt : k < l.length
          · rcases H3.out.2.kept HS.out with h0 | ⟨b', off', e, _, hc⟩
            · rw [h0] at hlt
              simp at hlt
            · cases e
              obtain ⟨c0, c1, c2⟩ := hc k hlt
              clear hc
              have hm := List.getElem_mem hlt
              have h1 := HI.out l[k] hm
              have h2 := HQ.out l[k] hm
              have h3 := HE.out l[k] hm
              clear hm
              generalize l[k] = y at *
              obtain ⟨f, m, d⟩ := y
              unfold endX at h1 h3
              obtain ⟨g1, g2, g3, g4, _⟩ := h2
              dsimp only at h1 h3 g1 g2 g3 g4 c0 c1 c2
              have hlt' : (k : Int) < (l.length : Int) := by omega
              have hk0 : (0 : Int) ≤ (k : Int) := by omega
              have hv1 : IntKind.i64.wrap (8 * f) = 8 * f := IntWalk.i64_in _ (by omega)
              have hv2 : IntKind.i64.wrap (8 * f + (d.length : Int)) = 8 * f + (d.length : Int) := IntWalk.i64_in _ (by omega)
              have hd1 : decide ((s.length : Int) < 8 * f + (d.length : Int)) = false := decide_eq_false (by omega)
              have hd2 : ¬ (s.length : Int) < 8 * f + (d.length : Int) := by omega
              obtain ⟨_, h1⟩ := h1
              clear h1
              cases m
              · have h4 := h3 rfl
                have hd3 : ((8 * f + (d.length : Int)) != (s.length : Int)) = false := by simp [h4]
                have hd4 : ((8 * f + (d.length : Int)) == (s.length : Int)) = true := by simp [h4]
                clear h3 h4
                go_wp2_with fail
                go_quiet (fail)
                go_wp2_with fail
                go_roundw
                case rel => exact ⟨k + 1, hlt, by go_num, grownBy_trans HS.out (grownBy_drewN _)⟩
                case measure => simp [intOf]; omega
              · clear h3
                go_wp2_with fail
                go_quiet (fail)
                go_wp2_with fail
                go_roundw
                case rel => exact ⟨k + 1, hlt, by go_num, grownBy_trans HS.out (grownBy_drewN _)⟩
                case measure => simp [intOf]; omega
          · obtain rfl : k = l.length := by omega
            have e0 := HS.out.cell b0 (by simp)
            have e2 := HS.out.cell b2 (by simp)
            obtain ⟨A, hA⟩ : ∃ A : Nat, x.f * 8 = A := ⟨(8 * x.f).toNat, by omega⟩
            have hA2 : 8 * x.f = (A : Int) := by omega
            have hA3 : (8 * x.f).toNat = A := by omega
            have hF := HF.out
            rw [hA3] at hF
            rw [hA2] at hx0 ⊢
            have hb1 : IntKind.i64.wrap ((A : Int) + (x.d.length : Int)) = ((A + x.d.length : Nat) : Int) := by rw [IntWalk.i64_in _ (by omega)]; omega
            have hb2 : (0 : Int) ≤ (A : Int) := by omega
            have hb3 : (A : Int) ≤ ((A + x.d.length : Nat) : Int) := by omega
            have hb4 : ((A + x.d.length : Nat) : Int) ≤ (s.length : Int) := by omega
            have hb5 : A + x.d.length ≤ s.length := by omega
            have HX := Lib.hid (show ({ data := s.toArray } : ByteArray).extract A (A + x.d.length) = ⟨x.d.toArray⟩ by rw [str_mid, Nat.add_sub_cancel_left, hF])
            clear hF hA hA2 hA3 hw1
            go_wp2_with fail
            go_quiet (fail)
            go_wp2_with fail
            go_ret
            have hfin : ((({ data := s.toArray } : ByteArray).extract A (A + x.d.length)).toList == x.d) = true := by
              rw [HX.out]
              simp [ByteArray.toList_eq]
            exact ⟨congrArg (fun z => Ending.returned (Value.bool z)) hfin, below_new (grownBy_trans H3.out.1 (grownBy_trans HS.out (grownBy_drewN _)))⟩

set_option maxRecDepth 100000 in
theorem lifted (os : Os) (started : os.Started) (H : Type) (enc : TypeId × Value → H) :
    ReturnsInHanded {} Try.checked os 8 .any (Rows.fnWholeSpec.pre6 enc Try.prog Try.f8 Rows.fnWholeRow.domain false) (Rows.fnWholeSpec.post enc Try.prog Try.f8 false true false false) := by
  refine returnsInHanded_of_change (C := Try.checked) own started (by kernel_rfl) Try.func8
    (ChangeSpec.witness6 (enc := enc) (C := Try.checked) false ⟨#[], #[.slice none 0 0], []⟩ 8 (by kernel_rfl) (by kernel_rfl) (by kernel_rfl) (by kernel_rfl)) ?_
  intro W base args ds gs before hval0 hW hcnd _
  have hval : ∀ (j : Nat) t v, Try.f8.params[j]? = some t → args[j]? = some v → Value.okWide Try.prog W .any base t v := hval0
  have hW' := hW
  obtain ⟨p, q, hA0, hV, rfl, hfz, hnd⟩ := hW
  have hA : DataW.TrodAll enc Try.prog W 0 (fun _ => true) true Try.f8.params.toList args.toList ds p := hA0
  rw [Try.params8] at hA hval
  obtain ⟨v0, vs0, d0, ds0, p0, q0, hargs, rfl, rfl, h0, r0⟩ := trodAll_cons hA
  obtain ⟨rfl, rfl, rfl⟩ := trodAll_nil r0
  obtain rfl : args = #[v0] := by cases args; simp_all
  obtain ⟨rfl, rfl⟩ := trodVars_none hV
  have k0 := h0
  have lt0 : ∀ x ∈ p0, x.block < W.heap.size := by obtain ⟨m, hm⟩ := k0; exact DataW.trod_lt m _ _ _ hm
  obtain ⟨a0, len0, cap0, rfl⟩ := okWide_slice Try.underlying41 (hval 0 41 v0 rfl rfl)
  obtain ⟨z0, w0⟩ : ∃ zs, IsRow .u8 W a0 len0 cap0 zs := by
    obtain ⟨fuel, hf⟩ := h0
    rcases open_ints Try.underlying41 Try.underlying5 (by kernel_rfl) hf with ⟨hcs, _⟩ | ⟨x, l, c, zs, hcs, _, hl, hm, hz, _, hcell, hwz⟩
    · simp [Value.cells] at hcs
      obtain ⟨rfl, rfl, rfl⟩ := hcs
      exact ⟨[], .inl ⟨rfl, rfl, rfl, rfl⟩⟩
    · simp [Value.cells] at hcs
      obtain ⟨rfl, rfl, rfl⟩ := hcs
      exact ⟨zs, .inr ⟨_, rfl, hl, hm, by simpa using hz, hcell, hwz⟩⟩
  clear hA0 hval0
  refine (walk a0 len0 cap0 z0 W w0).mono fun e W' ⟨he, bel⟩ => ?_
  subst he
  exact ⟨_, rfl, _, _, _, [], _, [], hW', trodAll_mk1 (shut_bool Try.underlying4 _), (trodAll_cons_mk (Below.trod laidOut (by kernel_rfl) (of_decide_eq_true (by kernel_rfl)) k0 bel lt0) trodAll_mk0), rfl, bel.frame _, fun h => by cases h⟩

theorem over : Rows.fnWholeRow.holds Try.pinned (OpenSpec.ofChange Rows.fnWholeSpec) :=
  OpenClaim.holds_of_wide 8 Try.f8 rfl rfl rfl rfl rfl rfl rfl ⟨rfl, rfl, rfl, rfl, rfl⟩ rfl rfl rfl rfl rfl (by kernel_rfl) Try.func8 (by kernel_rfl)
    (of_decide_eq_true (by kernel_rfl)) (by unfold Func.isWrapper; first | (rw [if_pos (by decide +kernel)]; kernel_rfl) | (rw [if_neg (by decide +kernel)]; exact ⟨rfl, rfl⟩))
    (fun os started H enc _ => lifted os started H enc)

theorem proved : Rows.FnWholeSaid := over
end Go.Proofs.Ytjgmkjbeagcgfaa.fnWhole
