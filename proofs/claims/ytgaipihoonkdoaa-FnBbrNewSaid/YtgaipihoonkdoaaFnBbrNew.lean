/- For every code of bytes the law FnBbrNew answers true; no condition. -/
import Derived.Test.YtgaipihoonkdoaaRows
import Derived.Test.YtgaipihoonkdoaaDraw
import Derived.Test.YtgaipihoonkdoaaBbD
import Derived.WalkKit
import Derived.ProofKit
import Derived.OpenShut
import Derived.ShutString
import Derived.ChangeOld
import Derived.Below
import Derived.Lib.SmallJoins
namespace Go.Proofs.Ytgaipihoonkdoaa.fnBbrNew
open Go.ChangeShapes Go.WideShapes Go.ChangeAt Go.RowKit Go.Joins
open Go.ChangeMaps (open_string shut_string)
set_option linter.unusedVariables false

theorem own : ownKnob Try.prog.godebug = none := by kernel_rfl
theorem laidOut : laidOutB Try.prog = true := by kernel_rfl


def IsRow (k : IntKind) (w : World) (a : Option Addr) (len cap : Nat) (zs : List Int) : Prop :=
  (a = none ∧ len = 0 ∧ cap = 0 ∧ zs = []) ∨
  ∃ x, a = some x ∧ len ≤ cap ∧ cap ≤ maxLen ∧ zs.length = cap ∧ (∀ i, i < zs.length → w.cell? (x.add i) = some (.int k (zs.getD i 0))) ∧ ∀ n ∈ zs, (Lit.int k n).wf = true

theorem win_new (q : Int) (h1 : 1 ≤ q) (h2 : q ≤ 60000) : bbOk 1 [] q 0 0 0 = true ∧ winF 1 [] q 0 0 0 = 4 := by
  have h : bbOk 1 [] q 0 0 0 = true := by
    have hr : inB q 1 60000 = true := by simp [inB]; omega
    rw [bb_yes (by decide) hr (by decide)]
    decide
  refine ⟨h, ?_⟩
  rw [winF, h]
  simp [pipeF, rateF, bestF, thF]

set_option maxRecDepth 100000 in
set_option maxHeartbeats 1500000 in
theorem walk (a0 : Option Addr) (len0 cap0 : Nat) (z0 : List Int) (w : World) (w0 : IsRow .u8 w a0 len0 cap0 z0) :
    Calls Try.prog 10 #[.slice a0 len0 cap0] w fun e w' => e = .returned (.bool true) ∧ Below w.heap.size w w' := by
  have H := Lib.hid (code_of w0)
  clear w0
  go_enter Try.func10, Try.ntmps10
  go_wp2_with fail
  refine (big_any _ _ _ _).mono ?_
  rintro e w' ⟨rfl, rfl⟩
  by_cases hb : 1048576 < len0
  · rw [decide_eq_true hb]
    go_wp2_with fail
    go_ret
    exact ⟨rfl, below_new (World.grownBy.refl _ _)⟩
  · rw [decide_eq_false hb]
    go_wp2_with fail
    refine (draw_bn _ _ _ _ H.out).mono ?_
    rintro e w0 ⟨q, rfl, hg⟩
    have H0 := Lib.hid hg
    clear hg
    obtain ⟨P, R, B, hv, hB⟩ := bn_form q
    have HV := Lib.hid hv
    have HBB := Lib.hid hB
    clear hv hB
    go_wp2_with fail
    refine ((bn_impl q _).mono (fun _ _ h => bn_as HV.out h)).mono ?_
    rintro e w1 ⟨rfl, hg⟩
    have hX := Bx.new w1 39 (bbC P none 0 0 R 0 0 0)
    have gX := World.grownBy_alloc w1 (.cells (bbC P none 0 0 R 0 0 0) 39) none
    have H1 := Lib.hid (And.intro (grownBy_trans H0.out (grownBy_trans hg gX)) hX)
    clear hg hX gX
    go_wp2_with fail
    generalize w1.alloc (.cells (bbC P none 0 0 R 0 0 0) 39) = w2 at *
    refine ((bn_spec q _).mono (fun _ _ h => bn_as HV.out h)).mono ?_
    rintro e w3 ⟨rfl, hg⟩
    have hX := Bx.new w3 39 (bbC P none 0 0 R 0 0 0)
    have gX := World.grownBy_alloc w3 (.cells (bbC P none 0 0 R 0 0 0) 39) none
    have H2 := Lib.hid (And.intro (grownBy_trans H1.out.1 (grownBy_trans hg gX)) (And.intro (H1.out.2.keep (grownBy_trans hg gX)) hX))
    clear hg hX gX
    have b0 := (H2.out.2.1).c 0 rfl
    have b1 := (H2.out.2.1).c 1 rfl
    have b2 := (H2.out.2.1).c 2 rfl
    have b3 := (H2.out.2.1).c 3 rfl
    have b4 := (H2.out.2.1).c 4 rfl
    have b5 := (H2.out.2.1).c 5 rfl
    have x0 := (H2.out.2.2).c 0 rfl
    have x1 := (H2.out.2.2).c 1 rfl
    have x2 := (H2.out.2.2).c 2 rfl
    have x3 := (H2.out.2.2).c 3 rfl
    have x4 := (H2.out.2.2).c 4 rfl
    have x5 := (H2.out.2.2).c 5 rfl
    cases B
    · go_wp2_with fail
      generalize w3.alloc (.cells (bbC P none 0 0 R 0 0 0) 39) = w4 at *
      refine (same_bbr P none none 0 0 [] R 0 0 0 _ (.inl rfl) (.inl rfl) (by simp)).mono ?_
      rintro e w5 ⟨rfl, hg⟩
      have H5 := Lib.hid (And.intro (grownBy_trans H2.out.1 hg) (And.intro (H2.out.2.1.keep hg) (H2.out.2.2.keep hg)))
      clear hg
      clear b0 b1 b2 b3 b4 b5
      clear x0 x1 x2 x3 x4 x5
      have b0 := (H5.out.2.1).c 0 rfl
      have b1 := (H5.out.2.1).c 1 rfl
      have b2 := (H5.out.2.1).c 2 rfl
      have b3 := (H5.out.2.1).c 3 rfl
      have b4 := (H5.out.2.1).c 4 rfl
      have b5 := (H5.out.2.1).c 5 rfl
      have x0 := (H5.out.2.2).c 0 rfl
      have x1 := (H5.out.2.2).c 1 rfl
      have x2 := (H5.out.2.2).c 2 rfl
      have x3 := (H5.out.2.2).c 3 rfl
      have x4 := (H5.out.2.2).c 4 rfl
      have x5 := (H5.out.2.2).c 5 rfl
      go_wp2_with fail
      refine (same_bbr P none none 0 0 [] R 0 0 0 _ (.inl rfl) (.inl rfl) (by simp)).mono ?_
      rintro e w6 ⟨rfl, hg⟩
      have H6 := Lib.hid (grownBy_trans H5.out.1 hg)
      clear hg
      go_wp2_with fail
      go_ret
      exact ⟨rfl, below_new H6.out⟩
    · obtain ⟨rfl, rfl, hq1, hq2⟩ := HBB.out rfl
      have HW := Lib.hid (win_new _ hq1 hq2)
      go_wp2_with fail
      generalize w3.alloc (.cells (bbC 1 none 0 0 R 0 0 0) 39) = w4 at *
      refine (same_bbr 1 none none 0 0 [] R 0 0 0 _ (.inl rfl) (.inl rfl) (by simp)).mono ?_
      rintro e w5 ⟨rfl, hg⟩
      have H5 := Lib.hid (And.intro (grownBy_trans H2.out.1 hg) (H2.out.2.1.keep hg))
      clear hg
      clear b0 b1 b2 b3 b4 b5
      clear x0 x1 x2 x3 x4 x5
      have b0 := (H5.out.2).c 0 rfl
      have b1 := (H5.out.2).c 1 rfl
      have b2 := (H5.out.2).c 2 rfl
      have b3 := (H5.out.2).c 3 rfl
      have b4 := (H5.out.2).c 4 rfl
      have b5 := (H5.out.2).c 5 rfl
      go_wp2_with fail
      refine (bb_ok_impl 1 none 0 [] R 0 0 0 _ (.inl rfl) (by simp)).mono ?_
      rintro e w6 ⟨rfl, hg⟩
      rw [HW.out.1]
      have H6 := Lib.hid (And.intro (grownBy_trans H5.out.1 hg) (H5.out.2.keep hg))
      clear hg
      clear b0 b1 b2 b3 b4 b5
      have b0 := (H6.out.2).c 0 rfl
      have b1 := (H6.out.2).c 1 rfl
      have b2 := (H6.out.2).c 2 rfl
      have b3 := (H6.out.2).c 3 rfl
      have b4 := (H6.out.2).c 4 rfl
      have b5 := (H6.out.2).c 5 rfl
      go_wp2_with fail
      refine (win_impl 1 none 0 [] R 0 0 0 _ (.inl rfl) (by simp)).mono ?_
      rintro e w7 ⟨rfl, hg⟩
      rw [HW.out.2]
      have H7 := Lib.hid (grownBy_trans H6.out.1 hg)
      clear hg
      go_wp2_with fail
      go_ret
      exact ⟨rfl, below_new H7.out⟩

set_option maxRecDepth 100000 in
theorem lifted (os : Os) (started : os.Started) (H : Type) (enc : TypeId × Value → H) :
    ReturnsInHanded {} Try.checked os 10 .any (Rows.fnBbrNewSpec.pre6 enc Try.prog Try.f10 Rows.fnBbrNewRow.domain false) (Rows.fnBbrNewSpec.post enc Try.prog Try.f10 false true false false) := by
  refine returnsInHanded_of_change (C := Try.checked) own started (by kernel_rfl) Try.func10
    (ChangeSpec.witness6 (enc := enc) (C := Try.checked) false ⟨#[], #[.slice none 0 0], []⟩ 8 (by kernel_rfl) (by kernel_rfl) (by kernel_rfl) (by kernel_rfl)) ?_
  intro W base args ds gs before hval0 hW hcnd _
  have hval : ∀ (j : Nat) t v, Try.f10.params[j]? = some t → args[j]? = some v → Value.okWide Try.prog W .any base t v := hval0
  have hW' := hW
  obtain ⟨p, q, hA0, hV, rfl, hfz, hnd⟩ := hW
  have hA : DataW.TrodAll enc Try.prog W 0 (fun _ => true) true Try.f10.params.toList args.toList ds p := hA0
  rw [Try.params10] at hA hval
  obtain ⟨v0, vs0, d0, ds0, p0, q0, hargs, rfl, rfl, h0, r0⟩ := trodAll_cons hA
  obtain ⟨rfl, rfl, rfl⟩ := trodAll_nil r0
  obtain rfl : args = #[v0] := by cases args; simp_all
  obtain ⟨rfl, rfl⟩ := trodVars_none hV
  have k0 := h0
  have lt0 : ∀ x ∈ p0, x.block < W.heap.size := by obtain ⟨m, hm⟩ := k0; exact DataW.trod_lt m _ _ _ hm
  obtain ⟨a0, len0, cap0, rfl⟩ := okWide_slice Try.underlying54 (hval 0 54 v0 rfl rfl)
  obtain ⟨z0, w0⟩ : ∃ zs, IsRow .u8 W a0 len0 cap0 zs := by
    obtain ⟨fuel, hf⟩ := h0
    rcases open_ints Try.underlying54 Try.underlying5 (by kernel_rfl) hf with ⟨hcs, _⟩ | ⟨x, l, c, zs, hcs, _, hl, hm, hz, _, hcell, hwz⟩
    · simp [Value.cells] at hcs
      obtain ⟨rfl, rfl, rfl⟩ := hcs
      exact ⟨[], .inl ⟨rfl, rfl, rfl, rfl⟩⟩
    · simp [Value.cells] at hcs
      obtain ⟨rfl, rfl, rfl⟩ := hcs
      exact ⟨zs, .inr ⟨_, rfl, hl, hm, by simpa using hz, hcell, hwz⟩⟩
  clear hA0 hval0
  refine (walk a0 len0 cap0 z0 W w0).mono fun e W' ⟨he, bel⟩ => ?_
  subst he
  exact ⟨_, rfl, _, _, _, [], _, [], hW', trodAll_mk1 (shut_bool Try.underlying4 _), (trodAll_cons_mk (Below.trod laidOut (by kernel_rfl) (of_decide_eq_true (by kernel_rfl)) k0 bel lt0) trodAll_mk0), rfl, bel.frame _, fun h => by cases h⟩

theorem over : Rows.fnBbrNewRow.holds Try.pinned (OpenSpec.ofChange Rows.fnBbrNewSpec) :=
  OpenClaim.holds_of_wide 10 Try.f10 rfl rfl rfl rfl rfl rfl rfl ⟨rfl, rfl, rfl, rfl, rfl⟩ rfl rfl rfl rfl rfl (by kernel_rfl) Try.func10 (by kernel_rfl)
    (of_decide_eq_true (by kernel_rfl)) (by unfold Func.isWrapper; first | (rw [if_pos (by decide +kernel)]; kernel_rfl) | (rw [if_neg (by decide +kernel)]; exact ⟨rfl, rfl⟩))
    (fun os started H enc _ => lifted os started H enc)

theorem proved : Rows.FnBbrNewSaid := over
end Go.Proofs.Ytgaipihoonkdoaa.fnBbrNew
