/- For every number the law FnExactBbrNew answers true; no condition. -/
import Derived.Test.YtgaipihoonkdoaaRows
import Derived.Test.YtgaipihoonkdoaaDraw
import Derived.Test.YtgaipihoonkdoaaBbD
import Derived.WalkKit
import Derived.ProofKit
import Derived.OpenShut
import Derived.ShutString
import Derived.ChangeOld
import Derived.Below
import Derived.Lib.SmallJoins
namespace Go.Proofs.Ytgaipihoonkdoaa.fnExactBbrNew
open Go.ChangeShapes Go.WideShapes Go.ChangeAt Go.RowKit Go.Joins
open Go.ChangeMaps (open_string shut_string)
set_option linter.unusedVariables false

theorem own : ownKnob Try.prog.godebug = none := by kernel_rfl
theorem laidOut : laidOutB Try.prog = true := by kernel_rfl


theorem dummy : True := trivial

set_option maxRecDepth 100000 in
set_option maxHeartbeats 1500000 in
theorem walk (a0 : Int) (w : World) (w0 : (Lit.int .i64 a0).wf = true) :
    Calls Try.prog 6 #[.int .i64 a0] w fun e w' => e = .returned (.bool true) ∧ Below w.heap.size w w' := by
  obtain ⟨P, R, B, hv, _⟩ := bn_form a0
  have HV := Lib.hid hv
  clear hv
  go_enter Try.func6, Try.ntmps6
  go_wp2_with fail
  refine ((bn_spec a0 _).mono (fun _ _ h => bn_as HV.out h)).mono ?_
  rintro e w1 ⟨rfl, hg⟩
  have hX := Bx.new w1 39 (bbC P none 0 0 R 0 0 0)
  have gX := World.grownBy_alloc w1 (.cells (bbC P none 0 0 R 0 0 0) 39) none
  have H1 := Lib.hid (And.intro (grownBy_trans hg gX) hX)
  clear hg hX gX
  go_wp2_with fail
  generalize w1.alloc (.cells (bbC P none 0 0 R 0 0 0) 39) = w2 at *
  refine ((bn_impl a0 _).mono (fun _ _ h => bn_as HV.out h)).mono ?_
  rintro e w3 ⟨rfl, hg⟩
  have hX := Bx.new w3 39 (bbC P none 0 0 R 0 0 0)
  have gX := World.grownBy_alloc w3 (.cells (bbC P none 0 0 R 0 0 0) 39) none
  have H2 := Lib.hid (And.intro (grownBy_trans H1.out.1 (grownBy_trans hg gX)) (And.intro (H1.out.2.keep (grownBy_trans hg gX)) hX))
  clear hg hX gX
  have b0 := (H2.out.2.1).c 0 rfl
  have b1 := (H2.out.2.1).c 1 rfl
  have b2 := (H2.out.2.1).c 2 rfl
  have b3 := (H2.out.2.1).c 3 rfl
  have b4 := (H2.out.2.1).c 4 rfl
  have b5 := (H2.out.2.1).c 5 rfl
  have x0 := (H2.out.2.2).c 0 rfl
  have x1 := (H2.out.2.2).c 1 rfl
  have x2 := (H2.out.2.2).c 2 rfl
  have x3 := (H2.out.2.2).c 3 rfl
  have x4 := (H2.out.2.2).c 4 rfl
  have x5 := (H2.out.2.2).c 5 rfl
  go_wp2_with fail
  generalize w3.alloc (.cells (bbC P none 0 0 R 0 0 0) 39) = w4 at *
  refine (eq_bbr P none none 0 0 [] R 0 0 0 _ (.inl rfl) (.inl rfl) (by simp)).mono ?_
  rintro e w5 ⟨rfl, hg⟩
  have H5 := Lib.hid (And.intro (grownBy_trans H2.out.1 hg) (And.intro (H2.out.2.1.keep hg) (H2.out.2.2.keep hg)))
  clear hg
  clear b0 b1 b2 b3 b4 b5
  clear x0 x1 x2 x3 x4 x5
  have b0 := (H5.out.2.1).c 0 rfl
  have b1 := (H5.out.2.1).c 1 rfl
  have b2 := (H5.out.2.1).c 2 rfl
  have b3 := (H5.out.2.1).c 3 rfl
  have b4 := (H5.out.2.1).c 4 rfl
  have b5 := (H5.out.2.1).c 5 rfl
  have x0 := (H5.out.2.2).c 0 rfl
  have x1 := (H5.out.2.2).c 1 rfl
  have x2 := (H5.out.2.2).c 2 rfl
  have x3 := (H5.out.2.2).c 3 rfl
  have x4 := (H5.out.2.2).c 4 rfl
  have x5 := (H5.out.2.2).c 5 rfl
  go_wp2_with fail
  refine (mark_bbr P none 0 0 [] R 0 0 0 _ (World.ownsRow_nil _ _ _ _) (by simp)).mono ?_
  rintro e w6 ⟨rfl, ⟨wm, hg0, hg⟩, ho⟩
  have hg := grownBy_trans hg0 (by simpa [Value.ownBlock] using hg)
  have H6 := Lib.hid (And.intro (grownBy_trans H5.out.1 hg) (And.intro (H5.out.2.1.keep hg) (H5.out.2.2.keep hg)))
  clear hg0 hg ho
  clear b0 b1 b2 b3 b4 b5
  clear x0 x1 x2 x3 x4 x5
  have b0 := (H6.out.2.1).c 0 rfl
  have b1 := (H6.out.2.1).c 1 rfl
  have b2 := (H6.out.2.1).c 2 rfl
  have b3 := (H6.out.2.1).c 3 rfl
  have b4 := (H6.out.2.1).c 4 rfl
  have b5 := (H6.out.2.1).c 5 rfl
  have x0 := (H6.out.2.2).c 0 rfl
  have x1 := (H6.out.2.2).c 1 rfl
  have x2 := (H6.out.2.2).c 2 rfl
  have x3 := (H6.out.2.2).c 3 rfl
  have x4 := (H6.out.2.2).c 4 rfl
  have x5 := (H6.out.2.2).c 5 rfl
  go_wp2_with fail
  refine (held_bbr P none 0 0 R 0 0 0 _ (.inl rfl) (by simp)).mono ?_
  rintro e w7 ⟨rfl, hg⟩
  have H7 := Lib.hid (And.intro (grownBy_trans H6.out.1 hg) (And.intro (H6.out.2.1.keep hg) (H6.out.2.2.keep hg)))
  clear hg
  clear b0 b1 b2 b3 b4 b5
  clear x0 x1 x2 x3 x4 x5
  go_wp2_with fail
  refine ((bn_impl a0 _).mono (fun _ _ h => bn_as HV.out h)).mono ?_
  rintro e w8 ⟨rfl, hg⟩
  have hX := Bx.new w8 39 (bbC P none 0 0 R 0 0 0)
  have gX := World.grownBy_alloc w8 (.cells (bbC P none 0 0 R 0 0 0) 39) none
  have H8 := Lib.hid (And.intro (grownBy_trans H7.out.1 (grownBy_trans hg gX)) (And.intro (H7.out.2.1.keep (grownBy_trans hg gX)) (And.intro (H7.out.2.2.keep (grownBy_trans hg gX)) hX)))
  clear hg hX gX
  have b0 := (H8.out.2.1).c 0 rfl
  have b1 := (H8.out.2.1).c 1 rfl
  have b2 := (H8.out.2.1).c 2 rfl
  have b3 := (H8.out.2.1).c 3 rfl
  have b4 := (H8.out.2.1).c 4 rfl
  have b5 := (H8.out.2.1).c 5 rfl
  have y0 := (H8.out.2.2.2).c 0 rfl
  have y1 := (H8.out.2.2.2).c 1 rfl
  have y2 := (H8.out.2.2.2).c 2 rfl
  have y3 := (H8.out.2.2.2).c 3 rfl
  have y4 := (H8.out.2.2.2).c 4 rfl
  have y5 := (H8.out.2.2.2).c 5 rfl
  go_wp2_with fail
  generalize w8.alloc (.cells (bbC P none 0 0 R 0 0 0) 39) = w9 at *
  refine (eq_bbr P none none 0 0 [] R 0 0 0 _ (.inl rfl) (.inl rfl) (by simp)).mono ?_
  rintro e w10 ⟨rfl, hg⟩
  have H10 := Lib.hid (And.intro (grownBy_trans H8.out.1 hg) (H8.out.2.2.1.keep hg))
  clear hg
  clear b0 b1 b2 b3 b4 b5
  clear y0 y1 y2 y3 y4 y5
  have x0 := (H10.out.2).c 0 rfl
  have x1 := (H10.out.2).c 1 rfl
  have x2 := (H10.out.2).c 2 rfl
  have x3 := (H10.out.2).c 3 rfl
  have x4 := (H10.out.2).c 4 rfl
  have x5 := (H10.out.2).c 5 rfl
  go_wp2_with fail
  refine (held_bbr P none 0 0 R 0 0 0 _ (.inl rfl) (by simp)).mono ?_
  rintro e w11 ⟨rfl, hg⟩
  have H11 := Lib.hid (grownBy_trans H10.out.1 hg)
  clear hg
  go_wp2_with fail
  go_ret
  exact ⟨rfl, below_new H11.out⟩

set_option maxRecDepth 100000 in
theorem lifted (os : Os) (started : os.Started) (H : Type) (enc : TypeId × Value → H) :
    ReturnsInHanded {} Try.checked os 6 .any (Rows.fnExactBbrNewSpec.pre6 enc Try.prog Try.f6 Rows.fnExactBbrNewRow.domain false) (Rows.fnExactBbrNewSpec.post enc Try.prog Try.f6 false true false false) := by
  refine returnsInHanded_of_change (C := Try.checked) own started (by kernel_rfl) Try.func6
    (ChangeSpec.witness6 (enc := enc) (C := Try.checked) false ⟨#[], #[.int .i64 0], []⟩ 8 (by kernel_rfl) (by kernel_rfl) (by kernel_rfl) (by kernel_rfl)) ?_
  intro W base args ds gs before hval0 hW hcnd _
  have hval : ∀ (j : Nat) t v, Try.f6.params[j]? = some t → args[j]? = some v → Value.okWide Try.prog W .any base t v := hval0
  have hW' := hW
  obtain ⟨p, q, hA0, hV, rfl, hfz, hnd⟩ := hW
  have hA : DataW.TrodAll enc Try.prog W 0 (fun _ => true) true Try.f6.params.toList args.toList ds p := hA0
  rw [Try.params6] at hA hval
  obtain ⟨v0, vs0, d0, ds0, p0, q0, hargs, rfl, rfl, h0, r0⟩ := trodAll_cons hA
  obtain ⟨rfl, rfl, rfl⟩ := trodAll_nil r0
  obtain rfl : args = #[v0] := by cases args; simp_all
  obtain ⟨rfl, rfl⟩ := trodVars_none hV
  have k0 := h0
  have lt0 : ∀ x ∈ p0, x.block < W.heap.size := by obtain ⟨m, hm⟩ := k0; exact DataW.trod_lt m _ _ _ hm
  obtain ⟨a0, rfl, rfl, rfl, w0⟩ := open_int Try.underlying2 (hval 0 2 v0 rfl rfl) h0
  clear hA0 hval0
  refine (walk a0 W w0).mono fun e W' ⟨he, bel⟩ => ?_
  subst he
  exact ⟨_, rfl, _, _, _, [], _, [], hW', trodAll_mk1 (shut_bool Try.underlying4 _), (trodAll_cons_mk (Below.trod laidOut (by kernel_rfl) (of_decide_eq_true (by kernel_rfl)) k0 bel lt0) trodAll_mk0), rfl, bel.frame _, fun h => by cases h⟩

theorem over : Rows.fnExactBbrNewRow.holds Try.pinned (OpenSpec.ofChange Rows.fnExactBbrNewSpec) :=
  OpenClaim.holds_of_wide 6 Try.f6 rfl rfl rfl rfl rfl rfl rfl ⟨rfl, rfl, rfl, rfl, rfl⟩ rfl rfl rfl rfl rfl (by kernel_rfl) Try.func6 (by kernel_rfl)
    (of_decide_eq_true (by kernel_rfl)) (by unfold Func.isWrapper; first | (rw [if_pos (by decide +kernel)]; kernel_rfl) | (rw [if_neg (by decide +kernel)]; exact ⟨rfl, rfl⟩))
    (fun os started H enc _ => lifted os started H enc)

theorem proved : Rows.FnExactBbrNewSaid := over
end Go.Proofs.Ytgaipihoonkdoaa.fnExactBbrNew
