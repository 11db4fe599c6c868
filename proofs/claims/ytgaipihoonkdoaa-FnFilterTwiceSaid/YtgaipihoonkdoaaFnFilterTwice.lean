/- For every code of bytes the law FnFilterTwice answers true; no condition. -/
import Derived.Test.YtgaipihoonkdoaaRows
import Derived.Test.YtgaipihoonkdoaaDraw
import Derived.Test.YtgaipihoonkdoaaBbD
import Derived.Test.YtgaipihoonkdoaaFlE
import Derived.WalkKit
import Derived.ProofKit
import Derived.OpenShut
import Derived.ShutString
import Derived.ChangeOld
import Derived.Below
import Derived.Lib.SmallJoins
namespace Go.Proofs.Ytgaipihoonkdoaa.fnFilterTwice
open Go.ChangeShapes Go.WideShapes Go.ChangeAt Go.RowKit Go.Joins
open Go.ChangeMaps (open_string shut_string)
set_option linter.unusedVariables false

theorem own : ownKnob Try.prog.godebug = none := by kernel_rfl
theorem laidOut : laidOutB Try.prog = true := by kernel_rfl


def IsRow (k : IntKind) (w : World) (a : Option Addr) (len cap : Nat) (zs : List Int) : Prop :=
  (a = none ∧ len = 0 ∧ cap = 0 ∧ zs = []) ∨
  ∃ x, a = some x ∧ len ≤ cap ∧ cap ≤ maxLen ∧ zs.length = cap ∧ (∀ i, i < zs.length → w.cell? (x.add i) = some (.int k (zs.getD i 0))) ∧ ∀ n ∈ zs, (Lit.int k n).wf = true

theorem dummy : True := trivial

set_option maxRecDepth 100000 in
set_option maxHeartbeats 1500000 in
theorem walk (a0 : Option Addr) (len0 cap0 : Nat) (z0 : List Int) (w : World) (w0 : IsRow .u8 w a0 len0 cap0 z0) :
    Calls Try.prog 14 #[.slice a0 len0 cap0] w fun e w' => e = .returned (.bool true) ∧ Below w.heap.size w w' := by
  have H := Lib.hid (code_of w0)
  clear w0
  go_enter Try.func14, Try.ntmps14
  go_wp2_with fail
  refine (big_any _ _ _ _).mono ?_
  rintro e w' ⟨rfl, rfl⟩
  by_cases hb : 1048576 < len0
  · rw [decide_eq_true hb]
    go_wp2_with fail
    go_ret
    exact ⟨rfl, below_new (World.grownBy.refl _ _)⟩
  · rw [decide_eq_false hb]
    clear hb
    go_wp2_with fail
    refine (draw_fa _ _ _ _ H.out).mono ?_
    rintro e w0 ⟨al, cl, l, t, q, d, rfl, hg, hra, hl⟩
    have hX := Bx.new w0 33 #[.int .i64 t, .int .i64 q]
    have gX := World.grownBy_alloc w0 (.cells #[.int .i64 t, .int .i64 q] 33) none
    have H0 := Lib.hid (And.intro (grownBy_trans hg gX) (And.intro hX (hra.kept gX)))
    clear hg hra hX gX
    go_wp2_with fail
    generalize w0.alloc (.cells #[.int .i64 t, .int .i64 q] 33) = wb at *
    refine (add_impl _ _ _ _ _ _ _ H0.out.2.2 (by omega)).mono ?_
    rintro e w1 ⟨a1, c1, rfl, hg, ho⟩
    have H1 := Lib.hid (And.intro (grownBy_trans H0.out.1 hg) (And.intro (H0.out.2.1.keep hg) (And.intro (H0.out.2.2.kept hg) (rg_own ho))))
    clear hg ho
    have x0 := H1.out.2.1.c 0 rfl
    have x1 := H1.out.2.1.c 1 rfl
    go_wp2_with fail
    refine (add_spec _ _ _ _ _ _ _ H1.out.2.2.1 (by omega)).mono ?_
    rintro e w2 ⟨a2, c2, rfl, hg, ho⟩
    have H2 := Lib.hid (And.intro (grownBy_trans H1.out.1 hg) (And.intro (H1.out.2.1.keep hg) (And.intro (H1.out.2.2.1.kept hg) (And.intro (H1.out.2.2.2.kept hg) (rg_own ho)))))
    have hL := addL_len l (t, q) d
    clear hg ho x0 x1
    cases hok : addOk l (t, q) d
    · have HN := Lib.hid hok
      clear hok
      generalize addL l (t, q) d = M at *
      go_wp2_with fail
      go_ret
      exact ⟨rfl, below_new H2.out.1⟩
    · have hP := addOk_of hok
      have hM := addL_yes hP
      obtain ⟨hT1, hT2⟩ := add_twice hP
      have HQ := Lib.hid (show addL (addL l (t, q) d) (t, q) d = addL l (t, q) d ∧ addOk (addL l (t, q) d) (t, q) d = true by rw [hM, addL_yes hT2, hT1, addOk_yes hT2]; exact ⟨rfl, rfl⟩)
      clear hok hP hM hT1 hT2
      generalize addL l (t, q) d = M at *
      have x0 := H2.out.2.1.c 0 rfl
      have x1 := H2.out.2.1.c 1 rfl
      go_wp2_with fail
      refine (add_impl _ _ M _ _ _ _ H2.out.2.2.2.1 (by omega)).mono ?_
      rintro e w3 ⟨a3, c3, rfl, hg, ho⟩
      rw [HQ.out.1] at ho ⊢
      rw [HQ.out.2]
      have H3 := Lib.hid (And.intro (grownBy_trans H2.out.1 hg) (And.intro (H2.out.2.2.2.1.kept hg) (rg_own ho)))
      clear hg ho x0 x1
      go_wp2_with fail
      refine (same_samples _ _ _ _ M _ H3.out.2.2 H3.out.2.1 (by omega)).mono ?_
      rintro e w4 ⟨rfl, hg⟩
      have H4 := Lib.hid (grownBy_trans H3.out.1 hg)
      clear hg
      go_wp2_with fail
      go_ret
      exact ⟨rfl, below_new H4.out⟩

set_option maxRecDepth 100000 in
theorem lifted (os : Os) (started : os.Started) (H : Type) (enc : TypeId × Value → H) :
    ReturnsInHanded {} Try.checked os 14 .any (Rows.fnFilterTwiceSpec.pre6 enc Try.prog Try.f14 Rows.fnFilterTwiceRow.domain false) (Rows.fnFilterTwiceSpec.post enc Try.prog Try.f14 false true false false) := by
  refine returnsInHanded_of_change (C := Try.checked) own started (by kernel_rfl) Try.func14
    (ChangeSpec.witness6 (enc := enc) (C := Try.checked) false ⟨#[], #[.slice none 0 0], []⟩ 8 (by kernel_rfl) (by kernel_rfl) (by kernel_rfl) (by kernel_rfl)) ?_
  intro W base args ds gs before hval0 hW hcnd _
  have hval : ∀ (j : Nat) t v, Try.f14.params[j]? = some t → args[j]? = some v → Value.okWide Try.prog W .any base t v := hval0
  have hW' := hW
  obtain ⟨p, q, hA0, hV, rfl, hfz, hnd⟩ := hW
  have hA : DataW.TrodAll enc Try.prog W 0 (fun _ => true) true Try.f14.params.toList args.toList ds p := hA0
  rw [Try.params14] at hA hval
  obtain ⟨v0, vs0, d0, ds0, p0, q0, hargs, rfl, rfl, h0, r0⟩ := trodAll_cons hA
  obtain ⟨rfl, rfl, rfl⟩ := trodAll_nil r0
  obtain rfl : args = #[v0] := by cases args; simp_all
  obtain ⟨rfl, rfl⟩ := trodVars_none hV
  have k0 := h0
  have lt0 : ∀ x ∈ p0, x.block < W.heap.size := by obtain ⟨m, hm⟩ := k0; exact DataW.trod_lt m _ _ _ hm
  obtain ⟨a0, len0, cap0, rfl⟩ := okWide_slice Try.underlying54 (hval 0 54 v0 rfl rfl)
  obtain ⟨z0, w0⟩ : ∃ zs, IsRow .u8 W a0 len0 cap0 zs := by
    obtain ⟨fuel, hf⟩ := h0
    rcases open_ints Try.underlying54 Try.underlying5 (by kernel_rfl) hf with ⟨hcs, _⟩ | ⟨x, l, c, zs, hcs, _, hl, hm, hz, _, hcell, hwz⟩
    · simp [Value.cells] at hcs
      obtain ⟨rfl, rfl, rfl⟩ := hcs
      exact ⟨[], .inl ⟨rfl, rfl, rfl, rfl⟩⟩
    · simp [Value.cells] at hcs
      obtain ⟨rfl, rfl, rfl⟩ := hcs
      exact ⟨zs, .inr ⟨_, rfl, hl, hm, by simpa using hz, hcell, hwz⟩⟩
  clear hA0 hval0
  refine (walk a0 len0 cap0 z0 W w0).mono fun e W' ⟨he, bel⟩ => ?_
  subst he
  exact ⟨_, rfl, _, _, _, [], _, [], hW', trodAll_mk1 (shut_bool Try.underlying4 _), (trodAll_cons_mk (Below.trod laidOut (by kernel_rfl) (of_decide_eq_true (by kernel_rfl)) k0 bel lt0) trodAll_mk0), rfl, bel.frame _, fun h => by cases h⟩

theorem over : Rows.fnFilterTwiceRow.holds Try.pinned (OpenSpec.ofChange Rows.fnFilterTwiceSpec) :=
  OpenClaim.holds_of_wide 14 Try.f14 rfl rfl rfl rfl rfl rfl rfl ⟨rfl, rfl, rfl, rfl, rfl⟩ rfl rfl rfl rfl rfl (by kernel_rfl) Try.func14 (by kernel_rfl)
    (of_decide_eq_true (by kernel_rfl)) (by unfold Func.isWrapper; first | (rw [if_pos (by decide +kernel)]; kernel_rfl) | (rw [if_neg (by decide +kernel)]; exact ⟨rfl, rfl⟩))
    (fun os started H enc _ => lifted os started H enc)

theorem proved : Rows.FnFilterTwiceSaid := over
end Go.Proofs.Ytgaipihoonkdoaa.fnFilterTwice
