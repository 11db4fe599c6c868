/- For every code the law FnOptsJoined answers true and leaves its argument as it was; no condition. -/
import Derived.Test.YtefpnbmjcailgaaRows
import Derived.Test.YtefpnbmjcailgaaDraw
import Derived.Test.YtefpnbmjcailgaaOpP
import Derived.WalkKit
import Derived.ProofKit
import Derived.OpenShut
import Derived.ShutString
import Derived.ChangeOld
import Derived.Below
import Derived.Lib.SmallJoins
namespace Go.Proofs.Ytefpnbmjcailgaa.fnOptsJoined
open Go.ChangeShapes Go.WideShapes Go.ChangeAt Go.RowKit Go.Joins
open Go.ChangeMaps (open_string shut_string)
set_option linter.unusedVariables false

theorem own : ownKnob Try.prog.godebug = none := by kernel_rfl
theorem laidOut : laidOutB Try.prog = true := by kernel_rfl


def IsRow (k : IntKind) (w : World) (a : Option Addr) (len cap : Nat) (zs : List Int) : Prop :=
  (a = none ∧ len = 0 ∧ cap = 0 ∧ zs = []) ∨
  ∃ x, a = some x ∧ len ≤ cap ∧ cap ≤ maxLen ∧ zs.length = cap ∧ (∀ i, i < zs.length → w.cell? (x.add i) = some (.int k (zs.getD i 0))) ∧ ∀ n ∈ zs, (Lit.int k n).wf = true

theorem dummy : True := trivial

set_option maxRecDepth 100000 in
set_option maxHeartbeats 3000000 in
theorem walk (a0 : Option Addr) (len0 cap0 : Nat) (z0 : List Int) (w : World) (w0 : IsRow .u8 w a0 len0 cap0 z0) :
    Calls Try.prog 6 #[.slice a0 len0 cap0] w fun e w' => e = .returned (.bool true) ∧ Below w.heap.size w w' := by
  obtain ⟨i0, hi, hz0, hz1, hz2⟩ := info_of infoPk
  have hc := code_of w0
  clear w0
  have HC := Lib.hid hc
  clear hc
  by_cases hbig : 1048576 < len0
  · go_enter Try.func6, Try.ntmps6
    go_wp2_with (go_at_call 16; refine (big_any _ _ _ _).mono ?_; rintro e w' ⟨rfl, rfl⟩)
    go_ret
    exact ⟨rfl, Below.refl _ _⟩
  · go_enter Try.func6, Try.ntmps6
    go_wp2_with (go_at_call 16; refine (big_any _ _ _ _).mono ?_; rintro e w' ⟨rfl, rfl⟩)
    refine (draw_bytes2 _ _ _ _ HC.out).mono ?_
    rintro e w1 ⟨l, lg, lc, hl, hall, rfl, hg, ho⟩
    have H1 := Lib.hid (And.intro hg (And.intro (pk_own ho) hall))
    clear hg ho hall
    have hL40 := optsL_le l
    obtain ⟨s, hs⟩ : ∃ s, optsL l = s := ⟨_, rfl⟩
    have HSS := Lib.hid hs
    rw [hs] at hL40
    clear hs
    go_wp2_with fail
    refine (ob_impl _ _ _ _ H1.out.2.1 (by omega) (od_small hl H1.out.2.2)).mono ?_
    rintro e w2 ⟨rfl, hg⟩
    rw [HSS.out]
    have H2 := Lib.hid (And.intro (grownBy_trans H1.out.1 hg) (H1.out.2.1.kept hg))
    clear hg
    go_wp2_with fail
    refine (ob_spec _ _ _ _ H2.out.2 (by omega) (od_small hl H1.out.2.2)).mono ?_
    rintro e w3 ⟨rfl, hg⟩
    rw [HSS.out]
    have H3 := Lib.hid (And.intro (grownBy_trans H2.out.1 hg) (H2.out.2.kept hg))
    clear hg
    go_wp2_with fail
    refine (ops_spec _ _ _ _ H3.out.2 (by omega) (od_small hl H1.out.2.2)).mono ?_
    rintro e w4 ⟨rfl, hg⟩
    have H4 := Lib.hid (And.intro (grownBy_trans H3.out.1 hg) (H3.out.2.kept hg))
    clear hg
    by_cases hP : opsP l
    · rw [ops_yes hP]
      have HP := Lib.hid hP
      clear hP
      have H5 := Lib.hid (And.intro (World.grownBy_alloc w4 (.cells #[] 43) none) (row_zero w4))
      have hw1 : IntKind.i64.wrap ((l.length : Int) - 1) = (l.length : Int) - 1 := IntWalk.i64_in _ (by omega)
      go_wp2_with fail
      go_loopw [5, 6] (fun v i wr => JnRel w4 l v i wr) (fun _ i _ => (intOf i + 1).toNat)
      case atStart => exact ⟨0, Nat.zero_le _, by simp, H5.out.1, H5.out.2, by simp⟩
      case round =>
        obtain ⟨k, hk, rfl, hg, ho, hne⟩ := hrel
        obtain ⟨tg, tc, rfl⟩ := own_some ho hne
        have HS := Lib.hid (And.intro hg (And.intro ho hne))
        clear hg ho hne
        by_cases hlt : k < l.length
        · have HLR := Lib.hid (H4.out.2.kept HS.out.1)
          rcases HLR.out with h0 | ⟨b, off, hbo, hb, hc⟩
          · rw [h0] at hlt
            simp at hlt
          · simp only [Option.some.injEq, Addr.mk.injEq, and_true] at hbo
            obtain ⟨rfl, rfl⟩ := hbo
            obtain ⟨q, hql, hqi, ⟨c0, c1⟩, hN⟩ : ∃ (q : Nat) (h : q < l.length), (l.length : Int) - 1 - (k : Int) = (q : Int) ∧ (wr.cell? ⟨lg, 0 + q * 2, none⟩ = some (.int .i64 (l[q]).1) ∧ wr.cell? ⟨lg, 0 + q * 2 + 1, none⟩ = some (.string ⟨(l[q]).2.toArray⟩)) ∧ l.reverse.take (k + 1) = l.reverse.take k ++ [l[q]] := ⟨l.length - 1 - k, by omega, by omega, hc _ (by omega), rev_next l k hlt⟩
            have HN := Lib.hid hN
            rw [Nat.zero_add] at c0 c1
            clear hc hN
            have hqlt : (q : Int) < (l.length : Int) := by omega
            have hq0 : (0 : Int) ≤ (q : Int) := by omega
            have hqw : IntKind.i64.wrap ((q : Int) - 1) = (q : Int) - 1 := IntWalk.i64_in _ (by omega)
            rw [hqi]
            have HQI := Lib.hid hqi
            clear hqi
            generalize l[q] = x at *
            obtain ⟨kk, body⟩ := x
            dsimp only at c0 c1
            go_wp2_with (at_builtin; refine wpList_append_own _ rfl _ _ 25 rfl w4.heap.size 43 i0 _ 2 24 Try.underlying25 hi hz0 hz1 hz2 rfl (by decide) _ _ _ rfl (HS.out.2.1.alloc _) ⟨wr.heap.size, 0, none⟩ 1 1 [.int .i64 kk, .string ⟨body.toArray⟩] rfl rfl ?c1 ?c2 ?c3 ?c4 ?c5 ?_)
            try (case c1 => exact pair_new _ _ _ _ _ (by first | rfl | simp))
            case c2 => simp [Value.oneCell']
            case c3 => unfold maxLen; omega
            case c4 => omega
            case c5 => have := HS.out.1.size; simp; omega
            intro v' wz hown1 hg1 hiff
            have HW := Lib.hid (And.intro hown1 (And.intro hg1 hiff))
            clear hown1 hg1 hiff
            go_wp2_with fail
            go_roundw
            case rel => exact ⟨k + 1, hlt, by rw [show (l.length : Int) - 1 - ((k + 1 : Nat) : Int) = (q : Int) - 1 by have := HQI.out; omega], grown_row_none (grownBy_trans HS.out.1 (World.grownBy_alloc _ _ _)) HW.out.2.1 (HS.out.2.1.alloc _) (Nat.le_refl _), by rw [HN.out, pksV_snoc]; exact HW.out.1, fun e => HW.out.2.2 e⟩
            case measure => first | (simp [intOf]; done) | (simp [intOf]; omega)
        · obtain rfl : k = l.length := by omega
          have hro : wr.ownsRow w4.heap.size 43 2 (.slice (some ⟨tg, 0, none⟩) l.reverse.length tc) l.reverse.length (pksV l.reverse) := by
            have h := HS.out.2.1
            rw [List.take_of_length_le (by rw [List.length_reverse]; exact Nat.le_refl _)] at h
            rw [List.length_reverse]
            exact h
          have HR := Lib.hid hro
          have hrl : l.reverse.length = l.length := List.length_reverse
          have hR40 := optsL_le l.reverse
          have HRP := Lib.hid (ops_rev HP.out)
          have hrev : ∀ x ∈ l.reverse, (x.2.length : Int) ≤ 9223372036854775807 := fun x hx => od_small hl H1.out.2.2 x (List.mem_reverse.1 hx)
          have HRV := Lib.hid hrev
          have HRB := Lib.hid (read_both l l.reverse HP.out HRP.out)
          have HLA := Lib.hid (H4.out.2.kept HS.out.1)
          have HGW := Lib.hid (grownBy_trans H4.out.1 HS.out.1)
          have hneg : ¬ (0 : Int) ≤ (l.length : Int) - 1 - (l.length : Int) := by omega
          have HRL := Lib.hid hrl
          clear hro hrev
          go_wp2_with fail
          rw [← HRL.out]
          generalize l.reverse = r at *
          obtain ⟨t, ht⟩ : ∃ t, optsL r = t := ⟨_, rfl⟩
          have HTT := Lib.hid ht
          rw [ht] at hR40
          clear ht
          refine (ob_impl _ _ r _ (pk_own HR.out) (by omega) HRV.out).mono ?_
          rintro e w6 ⟨rfl, hg⟩
          rw [HTT.out]
          have H6 := Lib.hid (And.intro (grownBy_trans HGW.out hg) (And.intro (HLA.out.kept hg) (own_kept HR.out hg)))
          rw [HSS.out, HTT.out] at HRB
          have hbb : ¬ 9223372036854775807 < s.length + t.length := by omega
          clear hg
          go_wp2_with fail
          refine (ro_impl (s ++ t) _ (by rw [List.length_append]; omega)).mono ?_
          have HRL2 := Lib.hid HRL.out
          by_cases hq : s.length + t.length ≤ 40
          · rw [HRB.out, if_pos hq]
            have hqi : (s.length : Int) + (t.length : Int) ≤ 40 := by omega
            have hdec : decide ((s.length : Int) + (t.length : Int) ≤ 40) = true := decide_eq_true hqi
            rintro e w7 ⟨xa, xc, rfl, hg, ho⟩
            have H7 := Lib.hid (And.intro (grownBy_trans H6.out.1 hg) (And.intro (H6.out.2.1.kept hg) (And.intro (pk_own (own_kept H6.out.2.2 hg)) (pk_own ho))))
            have H8 := Lib.hid (And.intro (World.grownBy_alloc w7 (.cells #[] 43) none) (row_zero w7))
            clear hg ho
            go_wp2_with (at_builtin; refine wpList_append_ownG (by first | rfl | kernel_rfl | simp [Region.wanted, yielded]) _ _ 25 rfl w7.heap.size 43 i0 _ 2 24 Try.underlying25 hi hz0 hz1 hz2 rfl (by decide) _ _ _ rfl H8.out.2 ⟨lg, 0, none⟩ l.length lc (pksV l) rfl (pksV_len l) ?a1 (pks_one l) ?a3 ?a4 ?a5 ?_)
            case a1 => exact pk_cells (H7.out.2.1.kept H8.out.1)
            case a3 => unfold maxLen; omega
            case a4 => omega
            case a5 => simp
            intro v1 wx hown1 hg1 _
            have HX := Lib.hid (And.intro (show wx.ownsRow w7.heap.size 43 2 v1 l.length (pksV l) by simpa using hown1) (grown_row_none H8.out.1 hg1 H8.out.2 (Nat.le_refl _)))
            clear hown1 hg1
            go_wp2_with (at_builtin; refine wpList_append_ownG (by first | rfl | kernel_rfl | simp [Region.wanted, yielded]) _ _ 25 rfl w7.heap.size 43 i0 _ 2 24 Try.underlying25 hi hz0 hz1 hz2 rfl (by decide) _ _ _ rfl HX.out.1 ⟨tg, 0, none⟩ l.length tc (pksV r) rfl (by rw [pksV_len, HRL2.out]) ?b1 (pks_one r) ?b3 ?b4 ?b5 ?_)
            case b1 => exact pk_cells (H7.out.2.2.1.kept HX.out.2)
            case b3 => unfold maxLen; omega
            case b4 => omega
            case b5 => exact HX.out.2.size
            intro v2 wy hown2 hg2 _
            obtain ⟨va, vc, rfl⟩ := own_slice hown2
            have HRO := Lib.hid hown2
            have HY := Lib.hid (And.intro (pk_join HRL2.out hown2) (grown_row_none HX.out.2 hg2 HX.out.1 (Nat.le_refl _)))
            clear hown2 hg2
            go_wp2_with fail
            have hsm := same_opts xa va xc vc (l ++ r) wy (H7.out.2.2.2.kept HY.out.2) HY.out.1 (by rw [List.length_append, HRL2.out]; omega)
            rw [List.length_append, HRL2.out] at hsm
            have HSM := Lib.hid hsm
            clear hsm
            refine HSM.out.mono ?_
            rintro e wz ⟨rfl, hg⟩
            have HZ := Lib.hid (grownBy_trans (grownBy_trans H7.out.1 HY.out.2) hg)
            clear hg
            go_wp2_with fail
            go_ret
            exact ⟨rfl, below_new HZ.out⟩
          · rw [HRB.out, if_neg hq]
            have hqi : ¬ (s.length : Int) + (t.length : Int) ≤ 40 := by omega
            have hdec : decide ((s.length : Int) + (t.length : Int) ≤ 40) = false := decide_eq_false hqi
            rintro e w7 ⟨xa, xc, rfl, hg, ho⟩
            have H7 := Lib.hid (grownBy_trans H6.out.1 hg)
            clear hg ho
            go_wp2_with fail
            go_ret
            exact ⟨rfl, below_new H7.out⟩
    · rw [ops_no hP]
      clear hP
      go_wp2_with fail
      refine (ob_spec _ _ _ _ H4.out.2 (by omega) (od_small hl H1.out.2.2)).mono ?_
      rintro e w5 ⟨rfl, hg⟩
      rw [HSS.out]
      have H5 := Lib.hid (grownBy_trans H4.out.1 hg)
      clear hg
      go_wp2_with fail
      go_ret
      exact ⟨rfl, below_new H5.out⟩

set_option maxRecDepth 100000 in
theorem lifted (os : Os) (started : os.Started) (H : Type) (enc : TypeId × Value → H) :
    ReturnsInHanded {} Try.checked os 6 .any (Rows.fnOptsJoinedSpec.pre6 enc Try.prog Try.f6 Rows.fnOptsJoinedRow.domain false) (Rows.fnOptsJoinedSpec.post enc Try.prog Try.f6 false true false false) := by
  refine returnsInHanded_of_change (C := Try.checked) own started (by kernel_rfl) Try.func6
    (ChangeSpec.witness6 (enc := enc) (C := Try.checked) false ⟨#[], #[.slice none 0 0], []⟩ 8 (by kernel_rfl) (by kernel_rfl) (by kernel_rfl) (by kernel_rfl)) ?_
  intro W base args ds gs before hval0 hW hcnd _
  have hval : ∀ (j : Nat) t v, Try.f6.params[j]? = some t → args[j]? = some v → Value.okWide Try.prog W .any base t v := hval0
  have hW' := hW
  obtain ⟨p, q, hA0, hV, rfl, hfz, hnd⟩ := hW
  have hA : DataW.TrodAll enc Try.prog W 0 (fun _ => true) true Try.f6.params.toList args.toList ds p := hA0
  rw [Try.params6] at hA hval
  obtain ⟨v0, vs0, d0, ds0, p0, q0, hargs, rfl, rfl, h0, r0⟩ := trodAll_cons hA
  obtain ⟨rfl, rfl, rfl⟩ := trodAll_nil r0
  obtain rfl : args = #[v0] := by cases args; simp_all
  obtain ⟨rfl, rfl⟩ := trodVars_none hV
  have k0 := h0
  have lt0 : ∀ x ∈ p0, x.block < W.heap.size := by obtain ⟨m, hm⟩ := k0; exact DataW.trod_lt m _ _ _ hm
  obtain ⟨a0, len0, cap0, rfl⟩ := okWide_slice Try.underlying33 (hval 0 33 v0 rfl rfl)
  obtain ⟨z0, w0⟩ : ∃ zs, IsRow .u8 W a0 len0 cap0 zs := by
    obtain ⟨fuel, hf⟩ := h0
    rcases open_ints Try.underlying33 Try.underlying5 (by kernel_rfl) hf with ⟨hcs, _⟩ | ⟨x, l, c, zs, hcs, _, hl, hm, hz, _, hcell, hwz⟩
    · simp [Value.cells] at hcs
      obtain ⟨rfl, rfl, rfl⟩ := hcs
      exact ⟨[], .inl ⟨rfl, rfl, rfl, rfl⟩⟩
    · simp [Value.cells] at hcs
      obtain ⟨rfl, rfl, rfl⟩ := hcs
      exact ⟨zs, .inr ⟨_, rfl, hl, hm, by simpa using hz, hcell, hwz⟩⟩
  clear hA0 hval0
  refine (walk a0 len0 cap0 z0 W w0).mono fun e W' ⟨he, bel⟩ => ?_
  subst he
  exact ⟨_, rfl, _, _, _, [], _, [], hW', trodAll_mk1 (shut_bool Try.underlying4 _), (trodAll_cons_mk (Below.trod laidOut (by kernel_rfl) (of_decide_eq_true (by kernel_rfl)) k0 bel lt0) trodAll_mk0), rfl, bel.frame _, fun h => by cases h⟩

theorem over : Rows.fnOptsJoinedRow.holds Try.pinned (OpenSpec.ofChange Rows.fnOptsJoinedSpec) :=
  OpenClaim.holds_of_wide 6 Try.f6 rfl rfl rfl rfl rfl rfl rfl ⟨rfl, rfl, rfl, rfl, rfl⟩ rfl rfl rfl rfl rfl (by kernel_rfl) Try.func6 (by kernel_rfl)
    (of_decide_eq_true (by kernel_rfl)) (by unfold Func.isWrapper; first | (rw [if_pos (by decide +kernel)]; kernel_rfl) | (rw [if_neg (by decide +kernel)]; exact ⟨rfl, rfl⟩))
    (fun os started H enc _ => lifted os started H enc)

theorem proved : Rows.FnOptsJoinedSaid := over
end Go.Proofs.Ytefpnbmjcailgaa.fnOptsJoined
