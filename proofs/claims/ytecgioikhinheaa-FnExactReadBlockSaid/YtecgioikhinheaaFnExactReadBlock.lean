/- For every text and either order of bytes the law FnExactReadBlock answers true and leaves its arguments as they were; no condition. -/
import Derived.Test.YtecgioikhinheaaRows
import Derived.Test.YtecgioikhinheaaRdSpec
import Derived.WalkKit
import Derived.ProofKit
import Derived.OpenShut
import Derived.ShutString
import Derived.ChangeOld
import Derived.Below
import Derived.Lib.SmallJoins
namespace Go.Proofs.Ytecgioikhinheaa.fnExactReadBlock
open Go.ChangeShapes Go.WideShapes Go.ChangeAt Go.RowKit Go.Joins
open Go.ChangeMaps (open_string shut_string)
set_option linter.unusedVariables false

theorem own : ownKnob Try.prog.godebug = none := by kernel_rfl
theorem laidOut : laidOutB Try.prog = true := by kernel_rfl


theorem dummy : True := trivial

set_option maxRecDepth 100000 in
set_option maxHeartbeats 1000000 in
theorem walk (a0 : ByteArray) (a1 : Bool) (w : World) (w0 : a0.size ≤ maxLen) :
    Calls Try.prog 7 #[.string a0, .bool a1] w fun e w' => e = .returned (.bool true) ∧ Below w.heap.size w w' := by
  obtain ⟨t, rfl⟩ : ∃ t : List UInt8, a0 = ⟨t.toArray⟩ := ⟨a0.data.toList, ba_of rfl⟩
  rw [str_size] at w0
  unfold maxLen at w0
  by_cases hbig : (1048576 : Int) < t.length
  · go_enter Try.func7, Try.ntmps7
    go_wp2_with fail
    go_ret
    exact ⟨rfl, Below.refl _ _⟩
  · by_cases hR : ∃ q, Right t a1 q
    · obtain ⟨q, hR⟩ := hR
      have HR := Lib.hid hR
      clear hR
      go_enter Try.func7, Try.ntmps7
      go_wp2_with fail
      refine (spec_read_yes t a1 q _ HR.out).mono ?_
      rintro e w1 ⟨rfl, hg⟩
      have HG := Lib.hid hg
      clear hg
      go_wp2_with fail
      refine (read_yes t a1 q _ HR.out (by omega)).mono ?_
      rintro e w2 ⟨rfl, hg⟩
      have c0 := hg.cell (a := ⟨w1.heap.size, 0, none⟩) (v := .int .i64 (numOf (t.take 4) a1)) (by go_simp) (by simp)
      have c1 := hg.cell (a := ⟨w1.heap.size, 1, none⟩) (v := .string ⟨((t.drop 8).take q).toArray⟩) (by go_simp) (by simp)
      have hlt : w1.heap.size < w2.heap.size := World.block_lt_of_cell? w2 ⟨w1.heap.size, 0, none⟩ c0
      have HG2 := Lib.hid (grownBy_trans HG.out (grownBy_trans (World.grownBy_alloc _ _ _) hg))
      clear hg
      go_wp2_with fail
      refine (eq_block _ _ _).mono ?_
      rintro e w3 ⟨rfl, hg⟩
      have HG3 := Lib.hid (grownBy_trans HG2.out (grownBy_trans (World.grownBy_alloc _ _ _) hg))
      clear hg
      go_wp2_with fail
      go_ret
      exact ⟨rfl, below_new HG3.out⟩
    · have HN := Lib.hid (fun q hq => hR ⟨q, hq⟩ : ∀ q, ¬ Right t a1 q)
      clear hR
      go_enter Try.func7, Try.ntmps7
      go_wp2_with fail
      refine (spec_read_no t a1 _ HN.out).mono ?_
      rintro e w1 ⟨rfl, hg⟩
      have HG := Lib.hid hg
      clear hg
      go_wp2_with fail
      refine (read_no t a1 _ HN.out (by omega)).mono ?_
      rintro e w2 ⟨rfl, hg⟩
      have c0 := hg.cell (a := ⟨w1.heap.size, 0, none⟩) (v := .int .i64 0) (by go_simp) (by simp)
      have c1 := hg.cell (a := ⟨w1.heap.size, 1, none⟩) (v := .string ⟨#[]⟩) (by go_simp) (by simp)
      have hlt : w1.heap.size < w2.heap.size := World.block_lt_of_cell? w2 ⟨w1.heap.size, 0, none⟩ c0
      have HG2 := Lib.hid (grownBy_trans HG.out (grownBy_trans (World.grownBy_alloc _ _ _) hg))
      clear hg
      go_wp2_with fail
      refine (eq_block 0 [] _).mono ?_
      rintro e w3 ⟨rfl, hg⟩
      have HG3 := Lib.hid (grownBy_trans HG2.out (grownBy_trans (World.grownBy_alloc _ _ _) hg))
      clear hg
      go_wp2_with fail
      go_ret
      exact ⟨rfl, below_new HG3.out⟩

set_option maxRecDepth 100000 in
theorem lifted (os : Os) (started : os.Started) (H : Type) (enc : TypeId × Value → H) :
    ReturnsInHanded {} Try.checked os 7 .any (Rows.fnExactReadBlockSpec.pre6 enc Try.prog Try.f7 Rows.fnExactReadBlockRow.domain false) (Rows.fnExactReadBlockSpec.post enc Try.prog Try.f7 false true false false) := by
  refine returnsInHanded_of_change (C := Try.checked) own started (by kernel_rfl) Try.func7
    (ChangeSpec.witness6 (enc := enc) (C := Try.checked) false ⟨#[], #[.string ByteArray.empty, .bool false], []⟩ 8 (by kernel_rfl) (by kernel_rfl) (by kernel_rfl) (by kernel_rfl)) ?_
  intro W base args ds gs before hval0 hW hcnd _
  have hval : ∀ (j : Nat) t v, Try.f7.params[j]? = some t → args[j]? = some v → Value.okWide Try.prog W .any base t v := hval0
  have hW' := hW
  obtain ⟨p, q, hA0, hV, rfl, hfz, hnd⟩ := hW
  have hA : DataW.TrodAll enc Try.prog W 0 (fun _ => true) true Try.f7.params.toList args.toList ds p := hA0
  rw [Try.params7] at hA hval
  obtain ⟨v0, vs0, d0, ds0, p0, q0, hargs, rfl, rfl, h0, r0⟩ := trodAll_cons hA
  obtain ⟨v1, vs1, d1, ds1, p1, q1, rfl, rfl, rfl, h1, r1⟩ := trodAll_cons r0
  obtain ⟨rfl, rfl, rfl⟩ := trodAll_nil r1
  obtain rfl : args = #[v0, v1] := by cases args; simp_all
  obtain ⟨rfl, rfl⟩ := trodVars_none hV
  have k0 := h0
  have lt0 : ∀ x ∈ p0, x.block < W.heap.size := by obtain ⟨m, hm⟩ := k0; exact DataW.trod_lt m _ _ _ hm
  obtain ⟨a0, rfl, rfl, rfl, w0⟩ := open_string Try.underlying9 (hval 0 9 v0 rfl rfl) h0
  have k1 := h1
  have lt1 : ∀ x ∈ p1, x.block < W.heap.size := by obtain ⟨m, hm⟩ := k1; exact DataW.trod_lt m _ _ _ hm
  obtain ⟨a1, rfl, rfl, rfl⟩ := open_bool Try.underlying4 (hval 1 4 v1 rfl rfl) h1
  clear hA0 hval0
  refine (walk a0 a1 W w0).mono fun e W' ⟨he, bel⟩ => ?_
  subst he
  exact ⟨_, rfl, _, _, _, [], _, [], hW', trodAll_mk1 (shut_bool Try.underlying4 _), (trodAll_cons_mk (Below.trod laidOut (by kernel_rfl) (of_decide_eq_true (by kernel_rfl)) k0 bel lt0) (trodAll_cons_mk (Below.trod laidOut (by kernel_rfl) (of_decide_eq_true (by kernel_rfl)) k1 bel lt1) trodAll_mk0)), rfl, bel.frame _, fun h => by cases h⟩

theorem over : Rows.fnExactReadBlockRow.holds Try.pinned (OpenSpec.ofChange Rows.fnExactReadBlockSpec) :=
  OpenClaim.holds_of_wide 7 Try.f7 rfl rfl rfl rfl rfl rfl rfl ⟨rfl, rfl, rfl, rfl, rfl⟩ rfl rfl rfl rfl rfl (by kernel_rfl) Try.func7 (by kernel_rfl)
    (of_decide_eq_true (by kernel_rfl)) (by unfold Func.isWrapper; first | (rw [if_pos (by decide +kernel)]; kernel_rfl) | (rw [if_neg (by decide +kernel)]; exact ⟨rfl, rfl⟩))
    (fun os started H enc _ => lifted os started H enc)

theorem proved : Rows.FnExactReadBlockSaid := over
end Go.Proofs.Ytecgioikhinheaa.fnExactReadBlock
