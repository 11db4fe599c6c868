/- For every drawn row of pieces the law FnKnownAll answers true; no condition. -/
import Derived.Test.YtobibbfamkjlaaaRows
import Derived.Test.YtobibbfamkjlaaaDraw
import Derived.Test.YtobibbfamkjlaaaDrawB
import Derived.Test.YtobibbfamkjlaaaPcSum
import Derived.WalkKit
import Derived.ProofKit
import Derived.OpenShut
import Derived.ShutString
import Derived.ChangeOld
import Derived.Below
import Derived.Lib.SmallJoins
namespace Go.Proofs.Ytobibbfamkjlaaa.fnKnownAll
open Go.ChangeShapes Go.WideShapes Go.ChangeAt Go.RowKit Go.Joins
open Go.ChangeMaps (open_string shut_string)
set_option linter.unusedVariables false

theorem own : ownKnob Try.prog.godebug = none := by kernel_rfl
theorem laidOut : laidOutB Try.prog = true := by kernel_rfl


def IsRow (k : IntKind) (w : World) (a : Option Addr) (len cap : Nat) (zs : List Int) : Prop :=
  (a = none ∧ len = 0 ∧ cap = 0 ∧ zs = []) ∨
  ∃ x, a = some x ∧ len ≤ cap ∧ cap ≤ maxLen ∧ zs.length = cap ∧ (∀ i, i < zs.length → w.cell? (x.add i) = some (.int k (zs.getD i 0))) ∧ ∀ n ∈ zs, (Lit.int k n).wf = true

def KaRel (w : World) (hs : List Rg) (k : Int) (n i : Value) (wr : World) : Prop :=
  ∃ j : Nat, j ≤ hs.length ∧ i = .int .i64 j ∧ n = .int .i64 (k + sumRto hs j) ∧ w.grownBy wr none

set_option maxRecDepth 100000 in
set_option maxHeartbeats 8000000 in
theorem walk (a0 : Option Addr) (len0 cap0 : Nat) (z0 : List Int) (w : World) (w0 : IsRow .u8 w a0 len0 cap0 z0) :
    Calls Try.prog 4 #[.slice a0 len0 cap0] w fun e w' => e = .returned (.bool true) ∧ Below w.heap.size w w' := by
  have hc := code_of w0
  have hbig0 : len0 ≤ maxLen := hc.1
  clear w0
  have HC := Lib.hid hc
  clear hc
  by_cases hbig : 1048576 < len0
  · go_enter Try.func4, Try.ntmps4
    go_wp2_with (go_at_call 6; refine (big_any _ _ _ _).mono ?_; rintro e w' ⟨rfl, rfl⟩)
    go_ret
    exact ⟨rfl, Below.refl _ _⟩
  · go_enter Try.func4, Try.ntmps4
    go_wp2_with (go_at_call 6; refine (big_any _ _ _ _).mono ?_; rintro e w' ⟨rfl, rfl⟩)
    refine (draw_known _ _ _ _ HC.out).mono ?_
    rintro e w1 ⟨l, v, hl4, rfl, hg, ho⟩
    obtain ⟨a1, c1, rfl⟩ := own_slice ho
    have H1 := Lib.hid (And.intro hg (pk_own ho))
    clear hg ho
    go_wp2_with fail
    refine (known_impl _ _ _ _ H1.out.2).mono ?_
    rintro e w2 ⟨rfl, hg⟩
    have H2 := Lib.hid (And.intro (grownBy_trans H1.out.1 hg) (H1.out.2.kept hg))
    clear hg
    generalize hkn : knownL l = kn at *
    have HK := Lib.hid hkn
    clear hkn
    go_wp2_with fail
    refine (known_spec _ _ _ _ H2.out.2 (by omega)).mono ?_
    rintro e w3 ⟨rfl, hg⟩
    rw [HK.out]
    have H3 := Lib.hid (And.intro (grownBy_trans H2.out.1 hg) (H2.out.2.kept hg))
    clear hg
    have hkk : (kn == kn) = true := by simp
    go_wp2_with fail
    refine (ok_spec _ _ _ _ H3.out.2 (by omega)).mono ?_
    rintro e w4 ⟨rfl, hg⟩
    have H4 := Lib.hid (And.intro (grownBy_trans H3.out.1 hg) (H3.out.2.kept hg))
    clear hg
    cases hok : pcsOk l
    · go_wp2_with fail
      refine (known_spec _ _ _ _ H4.out.2 (by omega)).mono ?_
      rintro e w5 ⟨rfl, hg⟩
      rw [HK.out]
      have H5 := Lib.hid (grownBy_trans H4.out.1 hg)
      clear hg
      go_wp2_with fail
      go_ret
      exact ⟨rfl, below_new H5.out⟩
    · have HP := Lib.hid (pcs_of hok)
      by_cases h0 : l.length = 0
      · have hb : ((l.length : Int) == 0) = true := by rw [beq_iff_eq]; omega
        clear h0
        go_wp2_with fail
        refine (known_spec _ _ _ _ H4.out.2 (by omega)).mono ?_
        rintro e w5 ⟨rfl, hg⟩
        rw [HK.out]
        have H5 := Lib.hid (grownBy_trans H4.out.1 hg)
        clear hg
        go_wp2_with fail
        go_ret
        exact ⟨rfl, below_new H5.out⟩
      · obtain ⟨k, hk⟩ : ∃ k, l.length = k + 1 := ⟨l.length - 1, by omega⟩
        have hb : ((l.length : Int) == 0) = false := by rw [beq_eq_false_iff_ne]; omega
        have HE := Lib.hid (endL_snoc l k hk)
        have hbd := endL_bd HP.out
        have HL := Lib.hid (show l ≠ [] from fun e => h0 (by rw [e]; rfl))
        rcases H4.out.2 with h1 | ⟨b, off, rfl, hbb, hcc⟩
        · exact absurd h1 HL.out
        · obtain ⟨c0, c1⟩ := hcc k (by omega)
          obtain ⟨p0, p1, p2, p3⟩ := HP.out.2.1 _ (List.getElem_mem (show k < l.length by omega))
          clear hcc h0
          generalize l[k]'(by omega) = x at *
          obtain ⟨p, m⟩ := x
          dsimp only at c0 c1 p0 p1 p2 p3 HE
          have hE2 := HE.out
          have hw : IntKind.i64.wrap (p + (m.length : Int)) = p + m.length := IntWalk.i64_in _ (by omega)
          have hk1 : (k : Int) < (l.length : Int) := by omega
          have hk2 : k < l.length := by omega
          have hk0 : (0 : Int) ≤ (k : Int) := by omega
          have hk3 : IntKind.i64.wrap ((l.length : Int) - 1) = k := by rw [IntWalk.i64_in _ (by omega)]; omega
          have HKK := Lib.hid hk
          obtain ⟨t, ht⟩ : ∃ t, p + (m.length : Int) = t := ⟨_, rfl⟩
          have HT := Lib.hid (show endL l = t from hE2.trans ht)
          have ht0 : 0 ≤ t := by omega
          have ht1 : t ≤ 12000 := by omega
          rw [ht] at hw
          clear hk hE2 hbd HE
          go_wp2_with fail
          go_quiet (fail)
          go_wp2_with fail
          refine (holes_impl _ _ _ _ _ (H4.out.2.kept (grownBy_drewN _))).mono ?_
          rintro e w5 ⟨v5, rfl, hg, ho⟩
          obtain ⟨a5, c5, rfl⟩ := own_slice ho
          have HH := Lib.hid (show holesL l t = holesF l 0 t by rw [holesL, if_pos ⟨pcs_yes HP.out, by omega, by omega⟩])
          have hlen : (holesL l t).length ≤ l.length := by rw [HH.out, ← HT.out]; exact fill_len l 0 HP.out.good HL.out
          have hsum : kn + sumRto (holesL l t) (holesL l t).length = t := by
            have := fill_sum t l 0 HP.out.good (fun q hq => (HP.out.2.1 q hq).1) (fun q hq => by rw [← HT.out]; exact end_le HP.out.good q hq) (by omega)
            rw [sumRto, List.take_length, HH.out, ← HK.out, knownL, if_pos (pcs_yes HP.out), sumTo_all]
            omega
          have hbds : ∀ x ∈ holesL l t, 0 ≤ x.1 ∧ x.1 < x.2 ∧ x.2 ≤ t := by rw [HH.out]; exact holesF_bd t l 0 (by omega) (fun q hq => (HP.out.2.1 q hq).1)
          have hkn0 : 0 ≤ kn ∧ kn ≤ 6000 * (l.length : Int) := by
            rw [← HK.out, knownL, if_pos (pcs_yes HP.out)]
            exact sumTo_bd l HP.out.2.1 l.length (Nat.le_refl _)
          have H5 := Lib.hid (And.intro (grownBy_trans (grownBy_trans H4.out.1 (grownBy_drewN _)) hg) (And.intro (rg_own ho) (And.intro hsum hbds)))
          have hlen' : ((holesL l t).length : Int) ≤ (l.length : Int) := by omega
          clear hg ho hsum hbds HH
          generalize holesL l t = hs at *
          go_wp2_with fail
          go_loopw [4, 7] (fun n i wr => KaRel w5 hs kn n i wr) (fun _ i _ => hs.length - (intOf i).toNat)
          case atStart => exact ⟨0, Nat.zero_le _, rfl, by simp [sumRto, sumR], World.grownBy.refl _ _⟩
          case round =>
            obtain ⟨j, hj, rfl, rfl, hg⟩ := hrel
            have HS := Lib.hid hg
            clear hg
            by_cases hlt : j < hs.length
            · rcases (H5.out.2.1.kept HS.out) with h1 | ⟨b2, off2, rfl, hb2, hd⟩
              · rw [h1] at hlt
                simp at hlt
              · obtain ⟨d0, d1⟩ := hd j hlt
                clear hd
                have hj1 : (j : Int) < (hs.length : Int) := by omega
                obtain ⟨x0, x1, x2⟩ := H5.out.2.2.2 _ (List.getElem_mem hlt)
                have hsb := sumRto_bd hs t H5.out.2.2.2 j hj
                have HN := Lib.hid (sumRto_next hs j hlt)
                have hmul : t * (j : Int) ≤ 12000 * 4 := Int.le_trans (Int.mul_le_mul_of_nonneg_left (show (j : Int) ≤ 4 by omega) ht0) (Int.mul_le_mul_of_nonneg_right ht1 (by omega))
                generalize hs[j] = x at *
                obtain ⟨u, v⟩ := x
                dsimp only at d0 d1 x0 x1 x2 HN
                generalize hsj : sumRto hs j = sj at *
                have hj0 : (0 : Int) ≤ (j : Int) := by omega
                have hw1 : IntKind.i64.wrap (kn + sj + v) = kn + sj + v := IntWalk.i64_in _ (by omega)
                have hw2 : IntKind.i64.wrap (kn + sj + v - u) = kn + sj + v - u := IntWalk.i64_in _ (by omega)
                have HQ := Lib.hid (show kn + sj + v - u = kn + sumRto hs (j + 1) by rw [HN.out]; omega)
                clear hsj hsb hmul
                go_wp2_with fail
                go_quiet (fail)
                go_wp2_with fail
                go_roundw
                case rel => exact ⟨j + 1, hlt, by go_num, by rw [← HQ.out], grownBy_trans HS.out (grownBy_drewN _)⟩
                case measure => first | (simp [intOf]; done) | (simp [intOf]; omega)
            · obtain rfl : j = hs.length := by omega
              rw [H5.out.2.2.1]
              have htt : (t == t) = true := by simp
              go_wp2_with fail
              go_ret
              exact ⟨rfl, below_new (grownBy_trans H5.out.1 HS.out)⟩

set_option maxRecDepth 100000 in
theorem lifted (os : Os) (started : os.Started) (H : Type) (enc : TypeId × Value → H) :
    ReturnsInHanded {} Try.checked os 4 .any (Rows.fnKnownAllSpec.pre6 enc Try.prog Try.f4 Rows.fnKnownAllRow.domain false) (Rows.fnKnownAllSpec.post enc Try.prog Try.f4 false true false false) := by
  refine returnsInHanded_of_change (C := Try.checked) own started (by kernel_rfl) Try.func4
    (ChangeSpec.witness6 (enc := enc) (C := Try.checked) false ⟨#[], #[.slice none 0 0], []⟩ 8 (by kernel_rfl) (by kernel_rfl) (by kernel_rfl) (by kernel_rfl)) ?_
  intro W base args ds gs before hval0 hW hcnd _
  have hval : ∀ (j : Nat) t v, Try.f4.params[j]? = some t → args[j]? = some v → Value.okWide Try.prog W .any base t v := hval0
  have hW' := hW
  obtain ⟨p, q, hA0, hV, rfl, hfz, hnd⟩ := hW
  have hA : DataW.TrodAll enc Try.prog W 0 (fun _ => true) true Try.f4.params.toList args.toList ds p := hA0
  rw [Try.params4] at hA hval
  obtain ⟨v0, vs0, d0, ds0, p0, q0, hargs, rfl, rfl, h0, r0⟩ := trodAll_cons hA
  obtain ⟨rfl, rfl, rfl⟩ := trodAll_nil r0
  obtain rfl : args = #[v0] := by cases args; simp_all
  obtain ⟨rfl, rfl⟩ := trodVars_none hV
  have k0 := h0
  have lt0 : ∀ x ∈ p0, x.block < W.heap.size := by obtain ⟨m, hm⟩ := k0; exact DataW.trod_lt m _ _ _ hm
  obtain ⟨a0, len0, cap0, rfl⟩ := okWide_slice Try.underlying22 (hval 0 22 v0 rfl rfl)
  obtain ⟨z0, w0⟩ : ∃ zs, IsRow .u8 W a0 len0 cap0 zs := by
    obtain ⟨fuel, hf⟩ := h0
    rcases open_ints Try.underlying22 Try.underlying5 (by kernel_rfl) hf with ⟨hcs, _⟩ | ⟨x, l, c, zs, hcs, _, hl, hm, hz, _, hcell, hwz⟩
    · simp [Value.cells] at hcs
      obtain ⟨rfl, rfl, rfl⟩ := hcs
      exact ⟨[], .inl ⟨rfl, rfl, rfl, rfl⟩⟩
    · simp [Value.cells] at hcs
      obtain ⟨rfl, rfl, rfl⟩ := hcs
      exact ⟨zs, .inr ⟨_, rfl, hl, hm, by simpa using hz, hcell, hwz⟩⟩
  clear hA0 hval0
  refine (walk a0 len0 cap0 z0 W w0).mono fun e W' ⟨he, bel⟩ => ?_
  subst he
  exact ⟨_, rfl, _, _, _, [], _, [], hW', trodAll_mk1 (shut_bool Try.underlying4 _), (trodAll_cons_mk (Below.trod laidOut (by kernel_rfl) (of_decide_eq_true (by kernel_rfl)) k0 bel lt0) trodAll_mk0), rfl, bel.frame _, fun h => by cases h⟩

theorem over : Rows.fnKnownAllRow.holds Try.pinned (OpenSpec.ofChange Rows.fnKnownAllSpec) :=
  OpenClaim.holds_of_wide 4 Try.f4 rfl rfl rfl rfl rfl rfl rfl ⟨rfl, rfl, rfl, rfl, rfl⟩ rfl rfl rfl rfl rfl (by kernel_rfl) Try.func4 (by kernel_rfl)
    (of_decide_eq_true (by kernel_rfl)) (by unfold Func.isWrapper; first | (rw [if_pos (by decide +kernel)]; kernel_rfl) | (rw [if_neg (by decide +kernel)]; exact ⟨rfl, rfl⟩))
    (fun os started H enc _ => lifted os started H enc)

theorem proved : Rows.FnKnownAllSaid := over
end Go.Proofs.Ytobibbfamkjlaaa.fnKnownAll
