/- For every code the law FnVlan answers true and leaves its argument as it was; no condition. -/
import Derived.Test.YtpihfhpdamjefaaRows
import Derived.Test.YtpihfhpdamjefaaDrawFrk
import Derived.Test.YtpihfhpdamjefaaFrmS
import Derived.Test.YtpihfhpdamjefaaFrmJ
import Derived.WalkKit
import Derived.ProofKit
import Derived.OpenShut
import Derived.ShutString
import Derived.ChangeOld
import Derived.Below
import Derived.Lib.SmallJoins
namespace Go.Proofs.Ytpihfhpdamjefaa.fnVlan
open Go.ChangeShapes Go.WideShapes Go.ChangeAt Go.RowKit Go.Joins
open Go.ChangeMaps (open_string shut_string)
set_option linter.unusedVariables false

theorem own : ownKnob Try.prog.godebug = none := by kernel_rfl
theorem laidOut : laidOutB Try.prog = true := by kernel_rfl


def IsRow (k : IntKind) (w : World) (a : Option Addr) (len cap : Nat) (zs : List Int) : Prop :=
  (a = none ∧ len = 0 ∧ cap = 0 ∧ zs = []) ∨
  ∃ x, a = some x ∧ len ≤ cap ∧ cap ≤ maxLen ∧ zs.length = cap ∧ (∀ i, i < zs.length → w.cell? (x.add i) = some (.int k (zs.getD i 0))) ∧ ∀ n ∈ zs, (Lit.int k n).wf = true

theorem vlan_lists (t f : List UInt8) (v k : Int) (b : List UInt8) (h : frameOk t f v k b) (n : Int) (hn : 0 ≤ n ∧ n ≤ 4095) :
    ∃ h0 r : List UInt8, h0.length = 12 ∧ frameL t f (-1) k b = h0 ++ r ∧ frameL t f n k b = h0 ++ (putL 33024 2 ++ (putL n 2 ++ r)) ∧ (putL 33024 2).length = 2 ∧ (putL n 2).length = 2 ∧ r.length ≤ 390 := by
  obtain ⟨h1, h2, h3, h4, h5, h6, h7, h8⟩ := h
  have e1 : frameL t f (-1) k b = frameT t f (-1) k b := if_pos ⟨h1, h2, by omega, by omega, h5, h6, h7, h8⟩
  have e2 : frameL t f n k b = frameT t f n k b := if_pos ⟨h1, h2, by omega, by omega, h5, h6, h7, h8⟩
  refine ⟨t ++ f, putL k 2 ++ b, by rw [List.length_append]; omega, ?_, ?_, two_len _ (by omega) (by omega), two_len _ (by omega) (by omega), ?_⟩
  · rw [e1, frameT_plain]; simp only [List.append_assoc]
  · rw [e2, frameT_tag _ _ _ _ _ (by omega)]; simp only [List.append_assoc]
  · rw [List.length_append, two_len k (by omega) (by omega)]; omega
theorem vlan_facts (A B h0 r x y : List UInt8) (k1 : h0.length = 12) (hA : A = h0 ++ r) (hB : B = h0 ++ (x ++ (y ++ r))) (k4 : x.length = 2) (k5 : y.length = 2) (k6 : r.length ≤ 390) :
    (12 : Int) ≤ (A.length : Int) ∧ (12 : Int) ≤ (B.length : Int) ∧ (16 : Int) ≤ (B.length : Int) ∧ IntKind.i64.wrap ((A.length : Int) + 4) = (A.length : Int) + 4 ∧ ((B.length : Int) == (A.length : Int) + 4) = true ∧ B.take 12 = A.take 12 ∧ B.drop 16 = A.drop 12 := by
  have lA : A.length = 12 + r.length := by rw [hA, List.length_append, k1]
  have lB : B.length = 16 + r.length := by rw [hB]; simp only [List.length_append]; omega
  refine ⟨by omega, by omega, by omega, IntWalk.i64_in _ (by omega), by simp; omega, ?_, ?_⟩
  · rw [hA, hB, List.take_left' k1, List.take_left' k1]
  · rw [hA, List.drop_left' k1]
    have : B = (h0 ++ x ++ y) ++ r := by rw [hB]; simp
    rw [this]
    exact List.drop_left' (by simp; omega)

set_option maxRecDepth 100000 in
set_option maxHeartbeats 1000000 in
theorem walk (a0 : Option Addr) (len0 cap0 : Nat) (z0 : List Int) (w : World) (w0 : IsRow .u8 w a0 len0 cap0 z0) :
    Calls Try.prog 4 #[.slice a0 len0 cap0] w fun e w' => e = .returned (.bool true) ∧ Below w.heap.size w w' := by
  have hc := code_of w0
  have hbig0 : len0 ≤ maxLen := hc.1
  clear w0
  have HC := Lib.hid hc
  clear hc
  by_cases hbig : 1048576 < len0
  · go_enter Try.func4, Try.ntmps4
    go_wp2_with (go_at_call 8; refine (big_any _ _ _ _).mono ?_; rintro e w' ⟨rfl, rfl⟩)
    go_ret
    exact ⟨rfl, Below.refl _ _⟩
  · go_enter Try.func4, Try.ntmps4
    go_wp2_with (go_at_call 8; refine (big_any _ _ _ _).mono ?_; rintro e w' ⟨rfl, rfl⟩)
    refine (draw_frame _ _ _ _ HC.out).mono ?_
    rintro e w1 ⟨t, f, b, v, k, rfl, hg⟩
    have H1 := Lib.hid ((frm_new w1 (.string ⟨t.toArray⟩) (.string ⟨f.toArray⟩) (.int .i64 v) (.int .i64 k) (.string ⟨b.toArray⟩) 25).base hg)
    clear hg
    go_wp2_with fail
    refine (frame_impl _ _ _ _ _ _).mono ?_
    rintro e w2 ⟨rfl, hg⟩
    have H2 := Lib.hid (H1.out.kept hg)
    clear hg H1
    obtain ⟨c0, c1, c2, c3, c4, _⟩ := frm_facts H2.out
    go_wp2_with fail
    refine (frame_spec _ _ _ _ _ _).mono ?_
    rintro e w3 ⟨rfl, hg⟩
    have H3 := Lib.hid (H2.out.kept hg)
    clear hg H2 c0 c1 c2 c3 c4
    obtain ⟨c0, c1, c2, c3, c4, _⟩ := frm_facts H3.out
    have hlt : w1.heap.size < w3.heap.size := cell_in c0
    by_cases hok : frameOk t f v k b
    · have hrem : ((len0 : Int)).tmod 4096 = (len0 : Int) % 4096 := Int.tmod_eq_emod_of_nonneg (by omega)
      obtain ⟨h0, r, k1, k2, k3, k4, k5, k6⟩ := vlan_lists t f v k b hok ((len0 : Int) % 4096) (by omega)
      have HL := Lib.hid (And.intro k1 (And.intro k2 (And.intro k3 (And.intro k4 (And.intro k5 k6)))))
      have hne : (frameL t f v k b).isEmpty = false := by
        have e : frameL t f v k b = frameT t f v k b := if_pos hok
        have hl : 0 < (frameL t f v k b).length := by
          rw [e]
          have := hok.1
          unfold frameT frameH
          cases tagOf v <;> simp [frmOl] <;> omega
        cases hx : frameL t f v k b
        · rw [hx] at hl; simp at hl
        · rfl
      clear k1 k2 k3 k4 k5 k6 hok
      generalize frameL t f v k b = s at hne ⊢
      have hp := frm_new w3 (.string ⟨t.toArray⟩) (.string ⟨f.toArray⟩) (.int .i64 (-1)) (.int .i64 k) (.string ⟨b.toArray⟩) 25
      have ha := World.grownBy_alloc (w3.alloc (.cells #[.string ⟨t.toArray⟩, .string ⟨f.toArray⟩, .int .i64 (-1), .int .i64 k, .string ⟨b.toArray⟩] 25)) (.cells #[.string ⟨t.toArray⟩, .string ⟨f.toArray⟩, .int .i64 ((len0 : Int) % 4096), .int .i64 k, .string ⟨b.toArray⟩] 25) none
      have hq := frm_new (w3.alloc (.cells #[.string ⟨t.toArray⟩, .string ⟨f.toArray⟩, .int .i64 (-1), .int .i64 k, .string ⟨b.toArray⟩] 25)) (.string ⟨t.toArray⟩) (.string ⟨f.toArray⟩) (.int .i64 ((len0 : Int) % 4096)) (.int .i64 k) (.string ⟨b.toArray⟩) 25
      rw [alloc_size] at hq
      have HQ := Lib.hid (And.intro (hp.kept ha) hq)
      clear hp ha hq
      go_wp2_with fail
      refine (frame_impl _ _ _ _ _ _).mono ?_
      rintro e w4 ⟨rfl, hg⟩
      have hq4 := HQ.out.2.kept hg
      have H4 := Lib.hid (grownBy_trans H3.out.grown (grownBy_trans HQ.out.1.grown hg))
      obtain ⟨q0, q1, q2, q3, q4, _⟩ := frm_facts hq4
      obtain ⟨A, hA⟩ : ∃ A, A = frameL t f (-1) k b := ⟨_, rfl⟩
      obtain ⟨B, hB⟩ : ∃ B, B = frameL t f ((len0 : Int) % 4096) k b := ⟨_, rfl⟩
      have hf := vlan_facts A B h0 r _ _ HL.out.1 (hA.trans HL.out.2.1) (hB.trans HL.out.2.2.1) HL.out.2.2.2.1 HL.out.2.2.2.2.1 HL.out.2.2.2.2.2
      have HAB := Lib.hid (And.intro hA hB)
      have HF := Lib.hid hf
      rw [← HAB.out.1]
      clear hg HL hq4 hA hB hf
      go_wp2_with fail
      refine (frame_impl _ _ _ _ _ _).mono ?_
      rintro e w5 ⟨rfl, hg⟩
      have H5 := Lib.hid (grownBy_trans H4.out hg)
      rw [← HAB.out.2]
      clear hg HAB
      have f1 := HF.out.1
      have f2 := HF.out.2.1
      have f3 := HF.out.2.2.1
      have f4 := HF.out.2.2.2.1
      have f5 := HF.out.2.2.2.2.1
      have f6 : ({ data := B.toArray } : ByteArray).extract 0 12 = ({ data := A.toArray } : ByteArray).extract 0 12 := by rw [ext_head, ext_head, HF.out.2.2.2.2.2.1]
      have f7 : ({ data := B.toArray } : ByteArray).extract 16 B.length = ({ data := A.toArray } : ByteArray).extract 12 A.length := by rw [ext_tail, ext_tail, HF.out.2.2.2.2.2.2]
      clear HF
      go_wp2_with fail
      go_quiet (fail)
      go_wp2_with fail
      go_ret
      exact ⟨rfl, below_new (grownBy_trans H5.out (grownBy_drewN _))⟩
    · have HE := Lib.hid (show frameL t f v k b = [] from if_neg hok)
      clear hok
      rw [HE.out]
      go_wp2_with fail
      refine (frame_spec _ _ _ _ _ _).mono ?_
      rintro e w4 ⟨rfl, hg⟩
      rw [HE.out]
      have HG := Lib.hid (grownBy_trans H3.out.grown hg)
      clear hg
      go_wp2_with fail
      go_ret
      exact ⟨rfl, below_new HG.out⟩

set_option maxRecDepth 100000 in
theorem lifted (os : Os) (started : os.Started) (H : Type) (enc : TypeId × Value → H) :
    ReturnsInHanded {} Try.checked os 4 .any (Rows.fnVlanSpec.pre6 enc Try.prog Try.f4 Rows.fnVlanRow.domain false) (Rows.fnVlanSpec.post enc Try.prog Try.f4 false true false false) := by
  refine returnsInHanded_of_change (C := Try.checked) own started (by kernel_rfl) Try.func4
    (ChangeSpec.witness6 (enc := enc) (C := Try.checked) false ⟨#[], #[.slice none 0 0], []⟩ 8 (by kernel_rfl) (by kernel_rfl) (by kernel_rfl) (by kernel_rfl)) ?_
  intro W base args ds gs before hval0 hW hcnd _
  have hval : ∀ (j : Nat) t v, Try.f4.params[j]? = some t → args[j]? = some v → Value.okWide Try.prog W .any base t v := hval0
  have hW' := hW
  obtain ⟨p, q, hA0, hV, rfl, hfz, hnd⟩ := hW
  have hA : DataW.TrodAll enc Try.prog W 0 (fun _ => true) true Try.f4.params.toList args.toList ds p := hA0
  rw [Try.params4] at hA hval
  obtain ⟨v0, vs0, d0, ds0, p0, q0, hargs, rfl, rfl, h0, r0⟩ := trodAll_cons hA
  obtain ⟨rfl, rfl, rfl⟩ := trodAll_nil r0
  obtain rfl : args = #[v0] := by cases args; simp_all
  obtain ⟨rfl, rfl⟩ := trodVars_none hV
  have k0 := h0
  have lt0 : ∀ x ∈ p0, x.block < W.heap.size := by obtain ⟨m, hm⟩ := k0; exact DataW.trod_lt m _ _ _ hm
  obtain ⟨a0, len0, cap0, rfl⟩ := okWide_slice Try.underlying22 (hval 0 22 v0 rfl rfl)
  obtain ⟨z0, w0⟩ : ∃ zs, IsRow .u8 W a0 len0 cap0 zs := by
    obtain ⟨fuel, hf⟩ := h0
    rcases open_ints Try.underlying22 Try.underlying5 (by kernel_rfl) hf with ⟨hcs, _⟩ | ⟨x, l, c, zs, hcs, _, hl, hm, hz, _, hcell, hwz⟩
    · simp [Value.cells] at hcs
      obtain ⟨rfl, rfl, rfl⟩ := hcs
      exact ⟨[], .inl ⟨rfl, rfl, rfl, rfl⟩⟩
    · simp [Value.cells] at hcs
      obtain ⟨rfl, rfl, rfl⟩ := hcs
      exact ⟨zs, .inr ⟨_, rfl, hl, hm, by simpa using hz, hcell, hwz⟩⟩
  clear hA0 hval0
  refine (walk a0 len0 cap0 z0 W w0).mono fun e W' ⟨he, bel⟩ => ?_
  subst he
  exact ⟨_, rfl, _, _, _, [], _, [], hW', trodAll_mk1 (shut_bool Try.underlying4 _), (trodAll_cons_mk (Below.trod laidOut (by kernel_rfl) (of_decide_eq_true (by kernel_rfl)) k0 bel lt0) trodAll_mk0), rfl, bel.frame _, fun h => by cases h⟩

theorem over : Rows.fnVlanRow.holds Try.pinned (OpenSpec.ofChange Rows.fnVlanSpec) :=
  OpenClaim.holds_of_wide 4 Try.f4 rfl rfl rfl rfl rfl rfl rfl ⟨rfl, rfl, rfl, rfl, rfl⟩ rfl rfl rfl rfl rfl (by kernel_rfl) Try.func4 (by kernel_rfl)
    (of_decide_eq_true (by kernel_rfl)) (by unfold Func.isWrapper; first | (rw [if_pos (by decide +kernel)]; kernel_rfl) | (rw [if_neg (by decide +kernel)]; exact ⟨rfl, rfl⟩))
    (fun os started H enc _ => lifted os started H enc)

theorem proved : Rows.FnVlanSaid := over
end Go.Proofs.Ytpihfhpdamjefaa.fnVlan
