/- For every text the law FnExactReadIp answers true and leaves its argument as it was; no condition. -/
import Derived.Test.YtcbaenndkljlpaaRows
import Derived.Test.YtcbaenndkljlpaaDraw
import Derived.Test.YtcbaenndkljlpaaIpI
import Derived.Test.YtcbaenndkljlpaaIpJ
import Derived.WalkKit
import Derived.ProofKit
import Derived.OpenShut
import Derived.ShutString
import Derived.ChangeOld
import Derived.Below
import Derived.Lib.SmallJoins
namespace Go.Proofs.Ytcbaenndkljlpaa.fnExactReadIp
open Go.ChangeShapes Go.WideShapes Go.ChangeAt Go.RowKit Go.Joins
open Go.ChangeMaps (open_string shut_string)
set_option linter.unusedVariables false

theorem own : ownKnob Try.prog.godebug = none := by kernel_rfl
theorem laidOut : laidOutB Try.prog = true := by kernel_rfl


theorem eq_law (s d t p i : Int) (b : List UInt8) (w : World) : Calls Try.prog 20 #[ipV s d t p i b, ipV s d t p i b] w fun e w' => e = .returned (.bool true) ∧ w.grownBy w' none := by
  go_enter Try.func20, Try.ntmps20
  go_wp2
  go_ret
  exact ⟨rfl, grownBy_trans (World.grownBy_alloc _ _ _) (World.grownBy_alloc _ _ _)⟩

theorem both_read (l : List UInt8) (hl : l.length ≤ 1000000000000) : ∃ s d t p i b x, (∀ w, Calls Try.prog 13 #[.string ⟨l.toArray⟩] w fun e w' => e = .returned (.tuple #[ipV s d t p i b, .bool x]) ∧ w.grownBy w' none) ∧ (∀ w, Calls Try.prog 12 #[.string ⟨l.toArray⟩] w fun e w' => e = .returned (.tuple #[ipV s d t p i b, .bool x]) ∧ w.grownBy w' none) :=
  ⟨_, _, _, _, _, _, _, ip_model l hl, ip_read_any l hl⟩

set_option maxRecDepth 100000 in
set_option maxHeartbeats 1000000 in
theorem walk (a0 : ByteArray) (w : World) (w0 : a0.size ≤ maxLen) :
    Calls Try.prog 7 #[.string a0] w fun e w' => e = .returned (.bool true) ∧ Below w.heap.size w w' := by
  obtain ⟨l, rfl⟩ : ∃ l : List UInt8, a0 = ⟨l.toArray⟩ := ⟨a0.data.toList, ba_of rfl⟩
  rw [str_size] at w0
  unfold maxLen at w0
  by_cases hbig : (l.length : Int) ≤ 1048576
  · have hl : l.length ≤ 1000000000000 := by omega
    obtain ⟨s, d, t, p, i, b, x, hA⟩ := both_read l hl
    have hA := Lib.hid hA
    go_enter Try.func7, Try.ntmps7
    go_wp2_with fail
    refine (hA.out.1 _).mono ?_
    rintro e w1 ⟨rfl, hg⟩
    have HG := Lib.hid hg
    clear hg
    go_wp2_with fail
    refine (hA.out.2 _).mono ?_
    rintro e w2 ⟨rfl, hg⟩
    have hc0 := hg.cell (a := ⟨w1.heap.size, 0, none⟩) (v := .int .i64 s) (by go_simp) (by simp)
    have hc1 := hg.cell (a := ⟨w1.heap.size, 1, none⟩) (v := .int .i64 d) (by go_simp) (by simp)
    have hc2 := hg.cell (a := ⟨w1.heap.size, 2, none⟩) (v := .int .i64 t) (by go_simp) (by simp)
    have hc3 := hg.cell (a := ⟨w1.heap.size, 3, none⟩) (v := .int .i64 p) (by go_simp) (by simp)
    have hc4 := hg.cell (a := ⟨w1.heap.size, 4, none⟩) (v := .int .i64 i) (by go_simp) (by simp)
    have hc5 := hg.cell (a := ⟨w1.heap.size, 5, none⟩) (v := .string ⟨b.toArray⟩) (by go_simp) (by simp)
    have HG2 := Lib.hid (grownBy_trans HG.out (grownBy_trans (World.grownBy_alloc _ _ _) hg))
    have hlt : w1.heap.size < w2.heap.size := World.block_lt_of_cell? w2 ⟨w1.heap.size, 0, none⟩ hc0
    clear hg
    go_wp2_with fail
    refine (eq_law s d t p i b _).mono ?_
    rintro e w3 ⟨rfl, hg⟩
    have HG3 := Lib.hid (grownBy_trans HG2.out (grownBy_trans (World.grownBy_alloc _ _ _) hg))
    clear hg
    go_wp2_with fail
    go_ret
    exact ⟨rfl, below_new HG3.out⟩
  · go_enter Try.func7, Try.ntmps7
    go_wp2_with fail
    go_ret
    exact ⟨rfl, Below.refl _ _⟩

set_option maxRecDepth 100000 in
theorem lifted (os : Os) (started : os.Started) (H : Type) (enc : TypeId × Value → H) :
    ReturnsInHanded {} Try.checked os 7 .any (Rows.fnExactReadIpSpec.pre6 enc Try.prog Try.f7 Rows.fnExactReadIpRow.domain false) (Rows.fnExactReadIpSpec.post enc Try.prog Try.f7 false true false false) := by
  refine returnsInHanded_of_change (C := Try.checked) own started (by kernel_rfl) Try.func7
    (ChangeSpec.witness6 (enc := enc) (C := Try.checked) false ⟨#[], #[.string ByteArray.empty], []⟩ 8 (by kernel_rfl) (by kernel_rfl) (by kernel_rfl) (by kernel_rfl)) ?_
  intro W base args ds gs before hval0 hW hcnd _
  have hval : ∀ (j : Nat) t v, Try.f7.params[j]? = some t → args[j]? = some v → Value.okWide Try.prog W .any base t v := hval0
  have hW' := hW
  obtain ⟨p, q, hA0, hV, rfl, hfz, hnd⟩ := hW
  have hA : DataW.TrodAll enc Try.prog W 0 (fun _ => true) true Try.f7.params.toList args.toList ds p := hA0
  rw [Try.params7] at hA hval
  obtain ⟨v0, vs0, d0, ds0, p0, q0, hargs, rfl, rfl, h0, r0⟩ := trodAll_cons hA
  obtain ⟨rfl, rfl, rfl⟩ := trodAll_nil r0
  obtain rfl : args = #[v0] := by cases args; simp_all
  obtain ⟨rfl, rfl⟩ := trodVars_none hV
  have k0 := h0
  have lt0 : ∀ x ∈ p0, x.block < W.heap.size := by obtain ⟨m, hm⟩ := k0; exact DataW.trod_lt m _ _ _ hm
  obtain ⟨a0, rfl, rfl, rfl, w0⟩ := open_string Try.underlying9 (hval 0 9 v0 rfl rfl) h0
  clear hA0 hval0
  refine (walk a0 W w0).mono fun e W' ⟨he, bel⟩ => ?_
  subst he
  exact ⟨_, rfl, _, _, _, [], _, [], hW', trodAll_mk1 (shut_bool Try.underlying4 _), (trodAll_cons_mk (Below.trod laidOut (by kernel_rfl) (of_decide_eq_true (by kernel_rfl)) k0 bel lt0) trodAll_mk0), rfl, bel.frame _, fun h => by cases h⟩

theorem over : Rows.fnExactReadIpRow.holds Try.pinned (OpenSpec.ofChange Rows.fnExactReadIpSpec) :=
  OpenClaim.holds_of_wide 7 Try.f7 rfl rfl rfl rfl rfl rfl rfl ⟨rfl, rfl, rfl, rfl, rfl⟩ rfl rfl rfl rfl rfl (by kernel_rfl) Try.func7 (by kernel_rfl)
    (of_decide_eq_true (by kernel_rfl)) (by unfold Func.isWrapper; first | (rw [if_pos (by decide +kernel)]; kernel_rfl) | (rw [if_neg (by decide +kernel)]; exact ⟨rfl, rfl⟩))
    (fun os started H enc _ => lifted os started H enc)

theorem proved : Rows.FnExactReadIpSaid := over
end Go.Proofs.Ytcbaenndkljlpaa.fnExactReadIp
