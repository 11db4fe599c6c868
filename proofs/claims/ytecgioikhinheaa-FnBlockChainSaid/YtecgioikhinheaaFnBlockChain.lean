/- Blocks one behind the other, three times one, are read one by one, up to what is none, at all drawn bytes. -/
import Derived.Test.YtecgioikhinheaaRows
import Derived.Test.YtecgioikhinheaaDrawBlk
import Derived.Test.YtecgioikhinheaaBlkP
import Derived.Test.YtecgioikhinheaaRdSpec
import Derived.WalkKit
import Derived.ProofKit
import Derived.OpenShut
import Derived.ShutString
import Derived.ChangeOld
import Derived.Below
import Derived.Lib.SmallJoins
namespace Go.Proofs.Ytecgioikhinheaa.fnBlockChain
open Go.ChangeShapes Go.WideShapes Go.ChangeAt Go.RowKit Go.Joins
open Go.ChangeMaps (open_string shut_string)
set_option linter.unusedVariables false

theorem own : ownKnob Try.prog.godebug = none := by kernel_rfl
theorem laidOut : laidOutB Try.prog = true := by kernel_rfl


def IsRow (k : IntKind) (w : World) (a : Option Addr) (len cap : Nat) (zs : List Int) : Prop :=
  (a = none ∧ len = 0 ∧ cap = 0 ∧ zs = []) ∨
  ∃ x, a = some x ∧ len ≤ cap ∧ cap ≤ maxLen ∧ zs.length = cap ∧ (∀ i, i < zs.length → w.cell? (x.add i) = some (.int k (zs.getD i 0))) ∧ ∀ n ∈ zs, (Lit.int k n).wf = true

theorem ext_any (t : List UInt8) (a e : Nat) (hh : t.length ≤ e) : (⟨t.toArray⟩ : ByteArray).extract a e = ⟨(t.drop a).toArray⟩ := by
  refine ba_of ?_
  rw [Lib.extract_data]
  exact List.take_of_length_le (by simp; omega)
theorem block_not (k : Int) (l : List UInt8) (big : Bool) (h : ¬ blockOk k l) : blockL k l big = [] := if_neg h

set_option maxRecDepth 100000 in
set_option maxHeartbeats 1000000 in
theorem walk (a0 : Option Addr) (len0 cap0 : Nat) (z0 : List Int) (w : World) (w0 : IsRow .u8 w a0 len0 cap0 z0) :
    Calls Try.prog 5 #[.slice a0 len0 cap0] w fun e w' => e = .returned (.bool true) ∧ Below w.heap.size w w' := by
  have hc := code_of w0
  clear w0
  have HC := Lib.hid hc
  clear hc
  by_cases hbig : 1048576 < len0
  · go_enter Try.func5, Try.ntmps5
    go_wp2_with (go_at_call 10; refine (big_any _ _ _ _).mono ?_; rintro e w' ⟨rfl, rfl⟩)
    go_ret
    exact ⟨rfl, Below.refl _ _⟩
  · go_enter Try.func5, Try.ntmps5
    go_wp2_with (go_at_call 10; refine (big_any _ _ _ _).mono ?_; rintro e w' ⟨rfl, rfl⟩)
    refine (draw_block _ _ _ _ HC.out).mono ?_
    rintro e w1 ⟨k, l, o, hk, hl, rfl, hg⟩
    have HT := Lib.hid (two_new w1 (.int .i64 k) (.string ⟨l.toArray⟩) 25)
    have HG := Lib.hid (grownBy_trans hg (World.grownBy_alloc w1 (.cells #[.int .i64 k, .string ⟨l.toArray⟩] 25) none))
    clear hg hk
    go_wp2_with fail
    refine (block_impl k l o _ (by omega)).mono ?_
    rintro e w2 ⟨rfl, hg⟩
    have hT2 := HT.out.kept hg (by simp)
    have c0 := hT2.a
    have c1 := hT2.b
    have H2 := Lib.hid (And.intro hT2 (grownBy_trans HG.out hg))
    clear hg hT2
    go_wp2_with fail
    refine (block_spec k l o _ (by omega)).mono ?_
    rintro e w3 ⟨rfl, hg⟩
    have hT3 := H2.out.1.kept hg (by simp)
    have d0 := hT3.a
    have d1 := hT3.b
    have H3 := Lib.hid (And.intro hT3 (grownBy_trans H2.out.2 hg))
    clear hg hT3 c0 c1
    by_cases hok : blockOk k l
    · obtain ⟨r1, r2, r3, r4, r5⟩ := block_right k l (blockT k l o ++ blockT k l o) o hok
      obtain ⟨s1, s2, s3, s4, _⟩ := block_right k l (blockT k l o) o hok
      obtain ⟨t1, t2, t3, t4, _⟩ := block_right k l [] o hok
      rw [List.append_nil] at t1 t2 t3 t4
      have HB := Lib.hid (show blockL k l o = blockT k l o from if_pos hok)
      have HR := Lib.hid (And.intro r1 (And.intro r2 (And.intro r3 r4)))
      have HS := Lib.hid (And.intro s1 (And.intro s2 (And.intro s3 s4)))
      have HU := Lib.hid (And.intro t1 (And.intro t2 (And.intro t3 t4)))
      clear r1 r2 r3 r4 s1 s2 s3 s4 t1 t2 t3 t4 hok
      rw [HB.out]
      generalize blockT k l o = s at *
      have hs0 : s.isEmpty = false := by cases s <;> simp at r5 ⊢
      have hs1 : s.length ≤ 24 := by omega
      have R5 := Lib.hid r5
      clear r5
      go_wp2_with fail
      refine wp_loop_rounds 4 ?_
      rw [rounds_succ]
      go_wp2_with fail
      rw [show ({ data := s.toArray } ++ { data := s.toArray } ++ { data := s.toArray } : ByteArray) = ⟨(s ++ (s ++ s)).toArray⟩ from by rw [ba_append, ba_append, List.append_assoc]]
      have hlen1 : (s ++ (s ++ s)).length ≤ 100 := by first | (simp; omega) | omega
      refine (read_yes (s ++ (s ++ s)) o l.length _ HR.out.1 (by omega)).mono ?_
      rintro e w4 ⟨rfl, hg⟩
      rw [HR.out.2.1, HR.out.2.2.1]
      have hT4 := H3.out.1.kept hg (by simp)
      have u0 := hT4.a
      have u1 := hT4.b
      have H4 := Lib.hid (And.intro (hT4.kept (World.grownBy_alloc w4 (.cells #[.int .i64 k, .string ⟨l.toArray⟩] 25) none) (by simp)) (grownBy_trans H3.out.2 (grownBy_trans hg (World.grownBy_alloc w4 (.cells #[.int .i64 k, .string ⟨l.toArray⟩] 25) none))))
      have hb4 : w1.heap.size ≠ w4.heap.size := by have := hT4.lt; omega
      have hsl : (l.length : Int) + 12 = (s.length : Int) := by have := R5.out; omega
      have HSL := Lib.hid hsl
      have hb4' : w4.heap.size ≠ w1.heap.size := fun e => hb4 e.symm
      clear hg hT4 d0 d1 hlen1 hsl
      have v0 := H4.out.1.a
      have v1 := H4.out.1.b
      clear u0 u1 hb4 hb4'
      go_wp2_with fail
      rw [rounds_succ]
      go_wp2_with fail
      rw [ext_any (s ++ (s ++ s)) (l.length + 12)]
      case hh =>
        have := R5.out
        first | (simp; omega) | omega
      rw [HR.out.2.2.2]
      have hlenw5 : (s ++ s).length ≤ 100 := by first | (simp; omega) | omega
      refine (read_yes (s ++ s) o l.length _ HS.out.1 (by omega)).mono ?_
      rintro e w5 ⟨rfl, hg⟩
      rw [HS.out.2.1, HS.out.2.2.1]
      have hTw5 := H4.out.1.kept hg (by simp)
      have Hw5 := Lib.hid (And.intro (hTw5.kept (World.grownBy_alloc w5 (.cells #[.int .i64 k, .string ⟨l.toArray⟩] 25) none) (by simp)) (grownBy_trans H4.out.2 (grownBy_trans hg (World.grownBy_alloc w5 (.cells #[.int .i64 k, .string ⟨l.toArray⟩] 25) none))))
      clear hg hTw5 hlenw5 v0 v1
      have v0 := Hw5.out.1.a
      have v1 := Hw5.out.1.b
      go_wp2_with fail
      rw [rounds_succ]
      go_wp2_with fail
      rw [ext_any (s ++ s) (l.length + 12)]
      case hh =>
        have := R5.out
        first | (simp; omega) | omega
      rw [HS.out.2.2.2]
      have hlenw6 : (s).length ≤ 100 := by first | (simp; omega) | omega
      refine (read_yes (s) o l.length _ HU.out.1 (by omega)).mono ?_
      rintro e w6 ⟨rfl, hg⟩
      rw [HU.out.2.1, HU.out.2.2.1]
      have hTw6 := Hw5.out.1.kept hg (by simp)
      have Hw6 := Lib.hid (And.intro (hTw6.kept (World.grownBy_alloc w6 (.cells #[.int .i64 k, .string ⟨l.toArray⟩] 25) none) (by simp)) (grownBy_trans Hw5.out.2 (grownBy_trans hg (World.grownBy_alloc w6 (.cells #[.int .i64 k, .string ⟨l.toArray⟩] 25) none))))
      clear hg hTw6 hlenw6 v0 v1
      have v0 := Hw6.out.1.a
      have v1 := Hw6.out.1.b
      go_wp2_with fail
      rw [rounds_succ]
      go_wp2_with fail
      rw [ext_any s (l.length + 12)]
      case hh =>
        have := R5.out
        first | (simp; omega) | omega
      rw [HU.out.2.2.2]
      refine (read_no [] o _ (right_none [] o (by simp)) (by simp)).mono ?_
      rintro e w7 ⟨rfl, hg⟩
      have H7 := Lib.hid (grownBy_trans Hw6.out.2 (grownBy_trans hg (World.grownBy_alloc w7 (.cells #[.int .i64 0, .string ⟨#[]⟩] 25) none)))
      clear hg v0 v1
      go_wp2_with fail
      go_ret
      exact ⟨rfl, below_new H7.out⟩
    · have HB := Lib.hid (block_not k l o hok)
      clear hok
      rw [HB.out]
      go_wp2_with fail
      refine (block_spec k l o _ (by omega)).mono ?_
      rintro e w4 ⟨rfl, hg⟩
      rw [HB.out]
      have H4 := Lib.hid (grownBy_trans H3.out.2 hg)
      clear hg
      go_wp2_with fail
      go_ret
      exact ⟨rfl, below_new H4.out⟩

set_option maxRecDepth 100000 in
theorem lifted (os : Os) (started : os.Started) (H : Type) (enc : TypeId × Value → H) :
    ReturnsInHanded {} Try.checked os 5 .any (Rows.fnBlockChainSpec.pre6 enc Try.prog Try.f5 Rows.fnBlockChainRow.domain false) (Rows.fnBlockChainSpec.post enc Try.prog Try.f5 false true false false) := by
  refine returnsInHanded_of_change (C := Try.checked) own started (by kernel_rfl) Try.func5
    (ChangeSpec.witness6 (enc := enc) (C := Try.checked) false ⟨#[], #[.slice none 0 0], []⟩ 8 (by kernel_rfl) (by kernel_rfl) (by kernel_rfl) (by kernel_rfl)) ?_
  intro W base args ds gs before hval0 hW hcnd _
  have hval : ∀ (j : Nat) t v, Try.f5.params[j]? = some t → args[j]? = some v → Value.okWide Try.prog W .any base t v := hval0
  have hW' := hW
  obtain ⟨p, q, hA0, hV, rfl, hfz, hnd⟩ := hW
  have hA : DataW.TrodAll enc Try.prog W 0 (fun _ => true) true Try.f5.params.toList args.toList ds p := hA0
  rw [Try.params5] at hA hval
  obtain ⟨v0, vs0, d0, ds0, p0, q0, hargs, rfl, rfl, h0, r0⟩ := trodAll_cons hA
  obtain ⟨rfl, rfl, rfl⟩ := trodAll_nil r0
  obtain rfl : args = #[v0] := by cases args; simp_all
  obtain ⟨rfl, rfl⟩ := trodVars_none hV
  have k0 := h0
  have lt0 : ∀ x ∈ p0, x.block < W.heap.size := by obtain ⟨m, hm⟩ := k0; exact DataW.trod_lt m _ _ _ hm
  obtain ⟨a0, len0, cap0, rfl⟩ := okWide_slice Try.underlying22 (hval 0 22 v0 rfl rfl)
  obtain ⟨z0, w0⟩ : ∃ zs, IsRow .u8 W a0 len0 cap0 zs := by
    obtain ⟨fuel, hf⟩ := h0
    rcases open_ints Try.underlying22 Try.underlying5 (by kernel_rfl) hf with ⟨hcs, _⟩ | ⟨x, l, c, zs, hcs, _, hl, hm, hz, _, hcell, hwz⟩
    · simp [Value.cells] at hcs
      obtain ⟨rfl, rfl, rfl⟩ := hcs
      exact ⟨[], .inl ⟨rfl, rfl, rfl, rfl⟩⟩
    · simp [Value.cells] at hcs
      obtain ⟨rfl, rfl, rfl⟩ := hcs
      exact ⟨zs, .inr ⟨_, rfl, hl, hm, by simpa using hz, hcell, hwz⟩⟩
  clear hA0 hval0
  refine (walk a0 len0 cap0 z0 W w0).mono fun e W' ⟨he, bel⟩ => ?_
  subst he
  exact ⟨_, rfl, _, _, _, [], _, [], hW', trodAll_mk1 (shut_bool Try.underlying4 _), (trodAll_cons_mk (Below.trod laidOut (by kernel_rfl) (of_decide_eq_true (by kernel_rfl)) k0 bel lt0) trodAll_mk0), rfl, bel.frame _, fun h => by cases h⟩

theorem over : Rows.fnBlockChainRow.holds Try.pinned (OpenSpec.ofChange Rows.fnBlockChainSpec) :=
  OpenClaim.holds_of_wide 5 Try.f5 rfl rfl rfl rfl rfl rfl rfl ⟨rfl, rfl, rfl, rfl, rfl⟩ rfl rfl rfl rfl rfl (by kernel_rfl) Try.func5 (by kernel_rfl)
    (of_decide_eq_true (by kernel_rfl)) (by unfold Func.isWrapper; first | (rw [if_pos (by decide +kernel)]; kernel_rfl) | (rw [if_neg (by decide +kernel)]; exact ⟨rfl, rfl⟩))
    (fun os started H enc _ => lifted os started H enc)

theorem proved : Rows.FnBlockChainSaid := over
end Go.Proofs.Ytecgioikhinheaa.fnBlockChain
