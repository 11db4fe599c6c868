/- For every drawn row of pieces the law FnPrefix answers true; no condition. -/
import Derived.Test.YtndefekfgfkmeaaRows
import Derived.Test.YtndefekfgfkmeaaDraw
import Derived.Test.YtndefekfgfkmeaaDrawB
import Derived.Test.YtndefekfgfkmeaaPcSum
import Derived.WalkKit
import Derived.ProofKit
import Derived.OpenShut
import Derived.ShutString
import Derived.ChangeOld
import Derived.Below
import Derived.Lib.SmallJoins
namespace Go.Proofs.Ytndefekfgfkmeaa.fnPrefix
open Go.ChangeShapes Go.WideShapes Go.ChangeAt Go.RowKit Go.Joins
open Go.ChangeMaps (open_string shut_string)
set_option linter.unusedVariables false

theorem own : ownKnob Try.prog.godebug = none := by kernel_rfl
theorem laidOut : laidOutB Try.prog = true := by kernel_rfl


def IsRow (k : IntKind) (w : World) (a : Option Addr) (len cap : Nat) (zs : List Int) : Prop :=
  (a = none ∧ len = 0 ∧ cap = 0 ∧ zs = []) ∨
  ∃ x, a = some x ∧ len ≤ cap ∧ cap ≤ maxLen ∧ zs.length = cap ∧ (∀ i, i < zs.length → w.cell? (x.add i) = some (.int k (zs.getD i 0))) ∧ ∀ n ∈ zs, (Lit.int k n).wf = true

def PrRel (w : World) (n : Nat) (i : Value) (wr : World) : Prop :=
  ∃ j : Nat, j ≤ n ∧ i = .int .i64 j ∧ w.grownBy wr none

set_option maxRecDepth 100000 in
set_option maxHeartbeats 8000000 in
theorem walk (a0 : Option Addr) (len0 cap0 : Nat) (z0 : List Int) (w : World) (w0 : IsRow .u8 w a0 len0 cap0 z0) :
    Calls Try.prog 5 #[.slice a0 len0 cap0] w fun e w' => e = .returned (.bool true) ∧ Below w.heap.size w w' := by
  have hc := code_of w0
  have hbig0 : len0 ≤ maxLen := hc.1
  clear w0
  have HC := Lib.hid hc
  clear hc
  by_cases hbig : 1048576 < len0
  · go_enter Try.func5, Try.ntmps5
    go_wp2_with (go_at_call 13; refine (big_any _ _ _ _).mono ?_; rintro e w' ⟨rfl, rfl⟩)
    go_ret
    exact ⟨rfl, Below.refl _ _⟩
  · go_enter Try.func5, Try.ntmps5
    go_wp2_with (go_at_call 13; refine (big_any _ _ _ _).mono ?_; rintro e w' ⟨rfl, rfl⟩)
    refine (draw_prefix _ _ _ _ HC.out).mono ?_
    rintro e w1 ⟨l, v, hl4, rfl, hg, ho⟩
    obtain ⟨a1, c1, rfl⟩ := own_slice ho
    have H1 := Lib.hid (And.intro hg (pk_own ho))
    clear hg ho
    go_wp2_with fail
    refine (pref_impl _ _ _ _ H1.out.2).mono ?_
    rintro e w2 ⟨rfl, hg⟩
    have H2 := Lib.hid (And.intro (grownBy_trans H1.out.1 hg) (H1.out.2.kept hg))
    clear hg
    obtain ⟨s, hs⟩ : ∃ s, prefL l = s := ⟨_, rfl⟩
    have HQ := Lib.hid hs
    rw [hs]
    clear hs
    go_wp2_with fail
    refine (pref_spec _ _ _ _ H2.out.2 (by omega)).mono ?_
    rintro e w3 ⟨rfl, hg⟩
    rw [HQ.out]
    have H3 := Lib.hid (And.intro (grownBy_trans H2.out.1 hg) (H2.out.2.kept hg))
    clear hg
    go_wp2_with fail
    refine (ok_spec _ _ _ _ H3.out.2 (by omega)).mono ?_
    rintro e w4 ⟨rfl, hg⟩
    have H4 := Lib.hid (And.intro (grownBy_trans H3.out.1 hg) (H3.out.2.kept hg))
    clear hg
    cases hok : pcsOk l
    · go_wp2_with fail
      refine (pref_spec _ _ _ _ H4.out.2 (by omega)).mono ?_
      rintro e w5 ⟨rfl, hg⟩
      rw [HQ.out]
      have H5 := Lib.hid (grownBy_trans H4.out.1 hg)
      clear hg
      go_wp2_with fail
      go_ret
      exact ⟨rfl, below_new H5.out⟩
    · have HP := Lib.hid (pcs_of hok)
      have HF := prefix_facts HP.out
      rw [HQ.out] at HF
      have HF := Lib.hid HF
      have hs6 := HF.out.2.2.2.2
      have HP2 := Lib.hid (show ∀ x ∈ l, pc2 x from fun x hx => by obtain ⟨x0, x1, x2, x3⟩ := HP.out.2.1 x hx; exact ⟨x0, by omega, by omega⟩)
      have hw : IntKind.i64.wrap ((s.length : Int) + 1) = (s.length : Int) + 1 := IntWalk.i64_in _ (by omega)
      go_wp2_with fail
      go_loopw [5] (fun i wr => PrRel w4 s.length i wr) (fun i _ => s.length - (intOf i).toNat)
      case atStart => exact ⟨0, Nat.zero_le _, rfl, World.grownBy.refl _ _⟩
      case round =>
        obtain ⟨j, hj, rfl, hg⟩ := hrel
        have HS := Lib.hid hg
        clear hg
        by_cases hlt : j < s.length
        · have hj1 : (j : Int) < (s.length : Int) := by omega
          have hj0 : (0 : Int) ≤ (j : Int) := by omega
          have HB := Lib.hid (show byteV (byteL l (j : Int)) = ((s[j]).toNat : Int) by rw [HF.out.1 j hlt]; rfl)
          have hts := s[j].toNat_lt
          have hneq : (((s[j]).toNat : Int) != IntKind.i64.wrap ((({ data := s.toArray } : ByteArray)[j]'(hlt)).toNat : Int)) = false := by
            rw [show IntKind.i64.wrap ((({ data := s.toArray } : ByteArray)[j]'(hlt)).toNat : Int) = ((s[j]).toNat : Int) from IntWalk.i64_in _ (by show -9223372036854775808 ≤ ((s[j].toNat : Nat) : Int) ∧ ((s[j].toNat : Nat) : Int) ≤ 9223372036854775807; omega)]
            simp
          have z0 := HS.out
          have z1 : w4.grownBy wr.drew none := grownBy_trans HS.out grownBy_drew
          go_wp2_with fail
          go_region_held3 (fun w' => w4.grownBy w' none) ((first | assumption | exact grownBy_trans (by assumption) grownBy_drew))
            (first | (go_at_call 21; refine (byte_law _ _ _ _ _ (H4.out.2.kept (by assumption)) (by omega) HP2.out (by omega) (by omega)).mono ?_; rintro e w9 ⟨rfl, hg⟩; rw [HB.out]; have q0 := grownBy_trans (a := w4) (by assumption) hg))
          all_goals
            go_wp2_with fail
            go_roundw
            case rel => exact ⟨j + 1, hlt, by go_num, by assumption⟩
            case measure => first | (simp [intOf]; done) | (simp [intOf]; omega)
        · obtain rfl : j = s.length := by omega
          go_wp2_with fail
          refine (holes_impl _ _ _ _ _ (H4.out.2.kept HS.out)).mono ?_
          rintro e w6 ⟨v6, rfl, hg, ho⟩
          obtain ⟨a6, c6, rfl⟩ := own_slice ho
          have H6 := Lib.hid (And.intro (grownBy_trans (grownBy_trans H4.out.1 HS.out) hg) (And.intro (H4.out.2.kept (grownBy_trans HS.out hg)) (rg_own ho)))
          clear hg ho
          rw [HF.out.2.2.1] at H6 ⊢
          go_wp2_with fail
          refine (byte_law _ _ _ _ _ H6.out.2.1 (by omega) HP2.out (by omega) (by omega)).mono ?_
          rintro e w7 ⟨rfl, hg⟩
          rw [HF.out.2.1, show byteV none = -1 from rfl]
          have H7 := Lib.hid (And.intro (grownBy_trans H6.out.1 hg) (And.intro (H6.out.2.1.kept hg) (H6.out.2.2.kept hg)))
          clear hg
          rcases H7.out.2.2 with h1 | ⟨b, off, rfl, hbb, hcc⟩
          · cases h1
          · obtain ⟨c0, c1⟩ := hcc 0 (by simp)
            simp only [Nat.zero_mul, Nat.add_zero, List.getElem_cons_zero] at c0 c1
            clear hcc
            have hkk := HF.out.2.2.2.1
            go_wp2_with fail
            refine (known_impl _ _ _ _ H7.out.2.1).mono ?_
            rintro e w8 ⟨rfl, hg⟩
            have H8 := Lib.hid (grownBy_trans H7.out.1 hg)
            clear hg
            go_wp2_with fail
            go_ret
            exact ⟨rfl, below_new H8.out⟩

set_option maxRecDepth 100000 in
theorem lifted (os : Os) (started : os.Started) (H : Type) (enc : TypeId × Value → H) :
    ReturnsInHanded {} Try.checked os 5 .any (Rows.fnPrefixSpec.pre6 enc Try.prog Try.f5 Rows.fnPrefixRow.domain false) (Rows.fnPrefixSpec.post enc Try.prog Try.f5 false true false false) := by
  refine returnsInHanded_of_change (C := Try.checked) own started (by kernel_rfl) Try.func5
    (ChangeSpec.witness6 (enc := enc) (C := Try.checked) false ⟨#[], #[.slice none 0 0], []⟩ 8 (by kernel_rfl) (by kernel_rfl) (by kernel_rfl) (by kernel_rfl)) ?_
  intro W base args ds gs before hval0 hW hcnd _
  have hval : ∀ (j : Nat) t v, Try.f5.params[j]? = some t → args[j]? = some v → Value.okWide Try.prog W .any base t v := hval0
  have hW' := hW
  obtain ⟨p, q, hA0, hV, rfl, hfz, hnd⟩ := hW
  have hA : DataW.TrodAll enc Try.prog W 0 (fun _ => true) true Try.f5.params.toList args.toList ds p := hA0
  rw [Try.params5] at hA hval
  obtain ⟨v0, vs0, d0, ds0, p0, q0, hargs, rfl, rfl, h0, r0⟩ := trodAll_cons hA
  obtain ⟨rfl, rfl, rfl⟩ := trodAll_nil r0
  obtain rfl : args = #[v0] := by cases args; simp_all
  obtain ⟨rfl, rfl⟩ := trodVars_none hV
  have k0 := h0
  have lt0 : ∀ x ∈ p0, x.block < W.heap.size := by obtain ⟨m, hm⟩ := k0; exact DataW.trod_lt m _ _ _ hm
  obtain ⟨a0, len0, cap0, rfl⟩ := okWide_slice Try.underlying22 (hval 0 22 v0 rfl rfl)
  obtain ⟨z0, w0⟩ : ∃ zs, IsRow .u8 W a0 len0 cap0 zs := by
    obtain ⟨fuel, hf⟩ := h0
    rcases open_ints Try.underlying22 Try.underlying5 (by kernel_rfl) hf with ⟨hcs, _⟩ | ⟨x, l, c, zs, hcs, _, hl, hm, hz, _, hcell, hwz⟩
    · simp [Value.cells] at hcs
      obtain ⟨rfl, rfl, rfl⟩ := hcs
      exact ⟨[], .inl ⟨rfl, rfl, rfl, rfl⟩⟩
    · simp [Value.cells] at hcs
      obtain ⟨rfl, rfl, rfl⟩ := hcs
      exact ⟨zs, .inr ⟨_, rfl, hl, hm, by simpa using hz, hcell, hwz⟩⟩
  clear hA0 hval0
  refine (walk a0 len0 cap0 z0 W w0).mono fun e W' ⟨he, bel⟩ => ?_
  subst he
  exact ⟨_, rfl, _, _, _, [], _, [], hW', trodAll_mk1 (shut_bool Try.underlying4 _), (trodAll_cons_mk (Below.trod laidOut (by kernel_rfl) (of_decide_eq_true (by kernel_rfl)) k0 bel lt0) trodAll_mk0), rfl, bel.frame _, fun h => by cases h⟩

theorem over : Rows.fnPrefixRow.holds Try.pinned (OpenSpec.ofChange Rows.fnPrefixSpec) :=
  OpenClaim.holds_of_wide 5 Try.f5 rfl rfl rfl rfl rfl rfl rfl ⟨rfl, rfl, rfl, rfl, rfl⟩ rfl rfl rfl rfl rfl (by kernel_rfl) Try.func5 (by kernel_rfl)
    (of_decide_eq_true (by kernel_rfl)) (by unfold Func.isWrapper; first | (rw [if_pos (by decide +kernel)]; kernel_rfl) | (rw [if_neg (by decide +kernel)]; exact ⟨rfl, rfl⟩))
    (fun os started H enc _ => lifted os started H enc)

theorem proved : Rows.FnPrefixSaid := over
end Go.Proofs.Ytndefekfgfkmeaa.fnPrefix
