/- A right block comes back from its bytes, whatever stands behind it, at all drawn bytes. -/
import Derived.Test.YtecgioikhinheaaRows
import Derived.Test.YtecgioikhinheaaRdBoth
import Derived.WalkKit
import Derived.ProofKit
import Derived.OpenShut
import Derived.ShutString
import Derived.ChangeOld
import Derived.Below
import Derived.Lib.SmallJoins
namespace Go.Proofs.Ytecgioikhinheaa.fnBlocks
open Go.ChangeShapes Go.WideShapes Go.ChangeAt Go.RowKit Go.Joins
open Go.ChangeMaps (open_string shut_string)
set_option linter.unusedVariables false

theorem own : ownKnob Try.prog.godebug = none := by kernel_rfl
theorem laidOut : laidOutB Try.prog = true := by kernel_rfl


def IsRow (k : IntKind) (w : World) (a : Option Addr) (len cap : Nat) (zs : List Int) : Prop :=
  (a = none ∧ len = 0 ∧ cap = 0 ∧ zs = []) ∨
  ∃ x, a = some x ∧ len ≤ cap ∧ cap ≤ maxLen ∧ zs.length = cap ∧ (∀ i, i < zs.length → w.cell? (x.add i) = some (.int k (zs.getD i 0))) ∧ ∀ n ∈ zs, (Lit.int k n).wf = true

theorem ext_take (t : List UInt8) (n : Nat) : (⟨t.toArray⟩ : ByteArray).extract 0 n = ⟨(t.take n).toArray⟩ := by
  refine ba_of ?_
  simp
theorem block_not (k : Int) (l : List UInt8) (big : Bool) (h : ¬ blockOk k l) : blockL k l big = [] := if_neg h

set_option maxRecDepth 100000 in
set_option maxHeartbeats 1000000 in
theorem walk (a0 : Option Addr) (len0 cap0 : Nat) (z0 : List Int) (w : World) (w0 : IsRow .u8 w a0 len0 cap0 z0) :
    Calls Try.prog 3 #[.slice a0 len0 cap0] w fun e w' => e = .returned (.bool true) ∧ Below w.heap.size w w' := by
  have hc := code_of w0
  clear w0
  have HC := Lib.hid hc
  clear hc
  by_cases hbig : 1048576 < len0
  · go_enter Try.func3, Try.ntmps3
    go_wp2_with (go_at_call 10; refine (big_any _ _ _ _).mono ?_; rintro e w' ⟨rfl, rfl⟩)
    go_ret
    exact ⟨rfl, Below.refl _ _⟩
  · go_enter Try.func3, Try.ntmps3
    go_wp2_with (go_at_call 10; refine (big_any _ _ _ _).mono ?_; rintro e w' ⟨rfl, rfl⟩)
    refine (draw_block _ _ _ _ HC.out).mono ?_
    rintro e w1 ⟨k, l, o, hk, hl, rfl, hg⟩
    have HT := Lib.hid (two_new w1 (.int .i64 k) (.string ⟨l.toArray⟩) 25)
    have HG := Lib.hid (grownBy_trans hg (World.grownBy_alloc w1 (.cells #[.int .i64 k, .string ⟨l.toArray⟩] 25) none))
    clear hg hk
    go_wp2_with fail
    refine (block_impl k l o _ (by omega)).mono ?_
    rintro e w2 ⟨rfl, hg⟩
    have hT2 := HT.out.kept hg (by simp)
    have H2 := Lib.hid (And.intro hT2 (grownBy_trans HG.out hg))
    clear hg hT2
    go_wp2_with fail
    refine (draw_rblock _ _ _ _ (HC.out.kept H2.out.2)).mono ?_
    rintro e w3 ⟨t, way, ht, rfl, hg⟩
    have H3 := Lib.hid (And.intro (H2.out.1.kept hg (by simp)) (grownBy_trans H2.out.2 hg))
    clear hg
    obtain ⟨K, L, n, is, hA⟩ := read_both t way (by omega)
    have HA := Lib.hid hA
    clear hA
    have hn := HA.out.few
    go_wp2_with fail
    refine (HA.out.impl _).mono ?_
    rintro e w4 ⟨rfl, hg⟩
    have H4 := Lib.hid (And.intro ((H3.out.1.kept hg (by simp)).kept (World.grownBy_alloc w4 (.cells #[.int .i64 K, .string ⟨L.toArray⟩] 25) none) (by simp)) (grownBy_trans H3.out.2 (grownBy_trans hg (World.grownBy_alloc w4 (.cells #[.int .i64 K, .string ⟨L.toArray⟩] 25) none))))
    have HX := Lib.hid (two_new w4 (.int .i64 K) (.string ⟨L.toArray⟩) 25)
    have hlt4 : w1.heap.size < w4.heap.size := (H3.out.1.kept hg (by simp)).lt
    clear hg
    go_wp2_with fail
    refine (HA.out.spec _).mono ?_
    rintro e w5 ⟨rfl, hg⟩
    have hb5 := (H4.out.1.kept hg (by simp)).kept (World.grownBy_alloc w5 (.cells #[.int .i64 K, .string ⟨L.toArray⟩] 25) none) (by simp)
    have hx5 := (HX.out.kept hg (by simp)).kept (World.grownBy_alloc w5 (.cells #[.int .i64 K, .string ⟨L.toArray⟩] 25) none) (by simp)
    have hy5 := two_new w5 (.int .i64 K) (.string ⟨L.toArray⟩) 25
    have hg5 := grownBy_trans H4.out.2 (grownBy_trans hg (World.grownBy_alloc w5 (.cells #[.int .i64 K, .string ⟨L.toArray⟩] 25) none))
    have b0 := hb5.a
    have b1 := hb5.b
    have H5 := Lib.hid (And.intro hb5 (And.intro hx5 (And.intro hy5 hg5)))
    clear hg hb5 hx5 hy5 hg5
    go_wp2_with fail
    refine (block_spec k l o _ (by omega)).mono ?_
    rintro e w6 ⟨rfl, hg⟩
    have hb6 := H5.out.1.kept hg (by simp)
    have hx6 := H5.out.2.1.kept hg (by simp)
    have hy6 := H5.out.2.2.1.kept hg (by simp)
    have H6 := Lib.hid (And.intro hb6 (And.intro hx6 (grownBy_trans H5.out.2.2.2 hg)))
    have x0 := hx6.a
    have x1 := hx6.b
    have y0 := hy6.a
    have y1 := hy6.b
    clear hg hb6 hx6 hy6 b0 b1
    go_wp2_with fail
    have hn0 : (n : Int) ≤ (t.length : Int) := by omega
    have hn1 : 0 ≤ (n : Int) := by omega
    have hx := ext_take t n
    cases is
    · go_quiet (fail)
      have hz : w6.grownBy (w6.drewN nq) none := grownBy_drewN _
      generalize w6.drewN nq = w7 at *
      have HZ := Lib.hid (grownBy_trans H6.out.2.2 hz)
      have hbz := H6.out.1.kept hz (by simp)
      have b0 := hbz.a
      have b1 := hbz.b
      have HB := Lib.hid hbz
      clear hz hbz
      by_cases hok : blockOk k l
      · obtain ⟨r1, r2, r3, r4, r5⟩ := block_right k l t o hok
        have HS := Lib.hid (show blockL k l o = blockT k l o from if_pos hok)
        have HR := Lib.hid (And.intro r1 (And.intro r2 (And.intro r3 r4)))
        clear r1 r2 r3 r4 hok
        rw [HS.out]
        generalize blockT k l o = s at *
        have hs0 : s.isEmpty = false := by cases s <;> simp at r5 ⊢
        have hs1 : s.length ≤ 24 := by omega
        have R5 := Lib.hid r5
        clear r5
        go_wp2_with fail
        rw [show ({ data := s.toArray } ++ { data := t.toArray } : ByteArray) = ⟨(s ++ t).toArray⟩ from ba_append _ _]
        refine (read_yes (s ++ t) o l.length _ HR.out.1 (by simp; omega)).mono ?_
        rintro e w8 ⟨rfl, hg⟩
        rw [HR.out.2.1, HR.out.2.2.1]
        have hb8 := ((HB.out.kept hg (by simp)).kept (World.grownBy_alloc w8 (.cells #[.int .i64 k, .string ⟨l.toArray⟩] 25) none) (by simp))
        have hz8 := two_new w8 (.int .i64 k) (.string ⟨l.toArray⟩) 25
        have H8 := Lib.hid (grownBy_trans HZ.out (grownBy_trans hg (World.grownBy_alloc w8 (.cells #[.int .i64 k, .string ⟨l.toArray⟩] 25) none)))
        have b8 := hb8.a
        have b9 := hb8.b
        have z8 := hz8.a
        have z9 := hz8.b
        have hsl : (l.length : Int) + 12 = (s.length : Int) := by have := R5.out; omega
        have h4 : ((s.length : Int) % 4 == 0) = true := by have := R5.out; have := HR.out.1.four; simp; omega
        rw [hsl]
        clear hg b0 b1 hb8 hz8 hsl
        go_wp2_with fail
        go_ret
        exact ⟨rfl, below_new (by first | exact H8.out | exact grownBy_trans H8.out grownBy_drew | exact grownBy_trans H8.out (grownBy_drewN _))⟩
      · have HS := Lib.hid (block_not k l o hok)
        clear hok
        rw [HS.out]
        go_wp2_with fail
        go_ret
        exact ⟨rfl, below_new HZ.out⟩
    · go_region_held3 (fun w' => w'.cell? ⟨w4.heap.size, 0, none⟩ = some (.int .i64 K) ∧ w'.cell? ⟨w4.heap.size, 1, none⟩ = some (.string ⟨L.toArray⟩) ∧ w6.grownBy w' none) ((refine ⟨by first | assumption | simp [*], by first | assumption | simp [*], by first | assumption | exact grownBy_drew | exact grownBy_trans (by assumption) (by assumption)⟩))
        (first | (go_at_call 12; refine (block_impl K L way _ (by have := HA.out.most; omega)).mono ?_; rintro e w7 ⟨rfl, hg⟩; rw [HA.out.same rfl]; have q0 := hg.cell (a := ⟨w4.heap.size, 0, none⟩) (v := .int .i64 K) (by assumption) (by simp); have q1 := hg.cell (a := ⟨w4.heap.size, 1, none⟩) (v := .string ⟨L.toArray⟩) (by assumption) (by simp); have q2 := grownBy_trans grownBy_drew hg))
      have hz := q2
      clear q0 q1 q2 hg
      have HZ := Lib.hid (grownBy_trans H6.out.2.2 hz)
      have hbz := H6.out.1.kept hz (by simp)
      have b0 := hbz.a
      have b1 := hbz.b
      have HB := Lib.hid hbz
      clear hz hbz
      by_cases hok : blockOk k l
      · obtain ⟨r1, r2, r3, r4, r5⟩ := block_right k l t o hok
        have HS := Lib.hid (show blockL k l o = blockT k l o from if_pos hok)
        have HR := Lib.hid (And.intro r1 (And.intro r2 (And.intro r3 r4)))
        clear r1 r2 r3 r4 hok
        rw [HS.out]
        generalize blockT k l o = s at *
        have hs0 : s.isEmpty = false := by cases s <;> simp at r5 ⊢
        have hs1 : s.length ≤ 24 := by omega
        have R5 := Lib.hid r5
        clear r5
        go_wp2_with fail
        rw [show ({ data := s.toArray } ++ { data := t.toArray } : ByteArray) = ⟨(s ++ t).toArray⟩ from ba_append _ _]
        refine (read_yes (s ++ t) o l.length _ HR.out.1 (by simp; omega)).mono ?_
        rintro e w8 ⟨rfl, hg⟩
        rw [HR.out.2.1, HR.out.2.2.1]
        have hb8 := ((HB.out.kept hg (by simp)).kept (World.grownBy_alloc w8 (.cells #[.int .i64 k, .string ⟨l.toArray⟩] 25) none) (by simp))
        have hz8 := two_new w8 (.int .i64 k) (.string ⟨l.toArray⟩) 25
        have H8 := Lib.hid (grownBy_trans HZ.out (grownBy_trans hg (World.grownBy_alloc w8 (.cells #[.int .i64 k, .string ⟨l.toArray⟩] 25) none)))
        have b8 := hb8.a
        have b9 := hb8.b
        have z8 := hz8.a
        have z9 := hz8.b
        have hsl : (l.length : Int) + 12 = (s.length : Int) := by have := R5.out; omega
        have h4 : ((s.length : Int) % 4 == 0) = true := by have := R5.out; have := HR.out.1.four; simp; omega
        rw [hsl]
        clear hg b0 b1 hb8 hz8 hsl
        go_wp2_with fail
        go_ret
        exact ⟨rfl, below_new (by first | exact H8.out | exact grownBy_trans H8.out grownBy_drew | exact grownBy_trans H8.out (grownBy_drewN _))⟩
      · have HS := Lib.hid (block_not k l o hok)
        clear hok
        rw [HS.out]
        go_wp2_with fail
        go_ret
        exact ⟨rfl, below_new HZ.out⟩

set_option maxRecDepth 100000 in
theorem lifted (os : Os) (started : os.Started) (H : Type) (enc : TypeId × Value → H) :
    ReturnsInHanded {} Try.checked os 3 .any (Rows.fnBlocksSpec.pre6 enc Try.prog Try.f3 Rows.fnBlocksRow.domain false) (Rows.fnBlocksSpec.post enc Try.prog Try.f3 false true false false) := by
  refine returnsInHanded_of_change (C := Try.checked) own started (by kernel_rfl) Try.func3
    (ChangeSpec.witness6 (enc := enc) (C := Try.checked) false ⟨#[], #[.slice none 0 0], []⟩ 8 (by kernel_rfl) (by kernel_rfl) (by kernel_rfl) (by kernel_rfl)) ?_
  intro W base args ds gs before hval0 hW hcnd _
  have hval : ∀ (j : Nat) t v, Try.f3.params[j]? = some t → args[j]? = some v → Value.okWide Try.prog W .any base t v := hval0
  have hW' := hW
  obtain ⟨p, q, hA0, hV, rfl, hfz, hnd⟩ := hW
  have hA : DataW.TrodAll enc Try.prog W 0 (fun _ => true) true Try.f3.params.toList args.toList ds p := hA0
  rw [Try.params3] at hA hval
  obtain ⟨v0, vs0, d0, ds0, p0, q0, hargs, rfl, rfl, h0, r0⟩ := trodAll_cons hA
  obtain ⟨rfl, rfl, rfl⟩ := trodAll_nil r0
  obtain rfl : args = #[v0] := by cases args; simp_all
  obtain ⟨rfl, rfl⟩ := trodVars_none hV
  have k0 := h0
  have lt0 : ∀ x ∈ p0, x.block < W.heap.size := by obtain ⟨m, hm⟩ := k0; exact DataW.trod_lt m _ _ _ hm
  obtain ⟨a0, len0, cap0, rfl⟩ := okWide_slice Try.underlying22 (hval 0 22 v0 rfl rfl)
  obtain ⟨z0, w0⟩ : ∃ zs, IsRow .u8 W a0 len0 cap0 zs := by
    obtain ⟨fuel, hf⟩ := h0
    rcases open_ints Try.underlying22 Try.underlying5 (by kernel_rfl) hf with ⟨hcs, _⟩ | ⟨x, l, c, zs, hcs, _, hl, hm, hz, _, hcell, hwz⟩
    · simp [Value.cells] at hcs
      obtain ⟨rfl, rfl, rfl⟩ := hcs
      exact ⟨[], .inl ⟨rfl, rfl, rfl, rfl⟩⟩
    · simp [Value.cells] at hcs
      obtain ⟨rfl, rfl, rfl⟩ := hcs
      exact ⟨zs, .inr ⟨_, rfl, hl, hm, by simpa using hz, hcell, hwz⟩⟩
  clear hA0 hval0
  refine (walk a0 len0 cap0 z0 W w0).mono fun e W' ⟨he, bel⟩ => ?_
  subst he
  exact ⟨_, rfl, _, _, _, [], _, [], hW', trodAll_mk1 (shut_bool Try.underlying4 _), (trodAll_cons_mk (Below.trod laidOut (by kernel_rfl) (of_decide_eq_true (by kernel_rfl)) k0 bel lt0) trodAll_mk0), rfl, bel.frame _, fun h => by cases h⟩

theorem over : Rows.fnBlocksRow.holds Try.pinned (OpenSpec.ofChange Rows.fnBlocksSpec) :=
  OpenClaim.holds_of_wide 3 Try.f3 rfl rfl rfl rfl rfl rfl rfl ⟨rfl, rfl, rfl, rfl, rfl⟩ rfl rfl rfl rfl rfl (by kernel_rfl) Try.func3 (by kernel_rfl)
    (of_decide_eq_true (by kernel_rfl)) (by unfold Func.isWrapper; first | (rw [if_pos (by decide +kernel)]; kernel_rfl) | (rw [if_neg (by decide +kernel)]; exact ⟨rfl, rfl⟩))
    (fun os started H enc _ => lifted os started H enc)

theorem proved : Rows.FnBlocksSaid := over
end Go.Proofs.Ytecgioikhinheaa.fnBlocks
