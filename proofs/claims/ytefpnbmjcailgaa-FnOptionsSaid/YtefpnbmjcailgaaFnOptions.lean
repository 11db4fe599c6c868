/- For every code the law FnOptions answers true and leaves its argument as it was; no condition. -/
import Derived.Test.YtefpnbmjcailgaaRows
import Derived.Test.YtefpnbmjcailgaaDraw
import Derived.Test.YtefpnbmjcailgaaOpP
import Derived.WalkKit
import Derived.ProofKit
import Derived.OpenShut
import Derived.ShutString
import Derived.ChangeOld
import Derived.Below
import Derived.Lib.SmallJoins
namespace Go.Proofs.Ytefpnbmjcailgaa.fnOptions
open Go.ChangeShapes Go.WideShapes Go.ChangeAt Go.RowKit Go.Joins
open Go.ChangeMaps (open_string shut_string)
set_option linter.unusedVariables false

theorem own : ownKnob Try.prog.godebug = none := by kernel_rfl
theorem laidOut : laidOutB Try.prog = true := by kernel_rfl


def IsRow (k : IntKind) (w : World) (a : Option Addr) (len cap : Nat) (zs : List Int) : Prop :=
  (a = none ∧ len = 0 ∧ cap = 0 ∧ zs = []) ∨
  ∃ x, a = some x ∧ len ≤ cap ∧ cap ≤ maxLen ∧ zs.length = cap ∧ (∀ i, i < zs.length → w.cell? (x.add i) = some (.int k (zs.getD i 0))) ∧ ∀ n ∈ zs, (Lit.int k n).wf = true

theorem dummy : True := trivial

set_option maxRecDepth 100000 in
set_option maxHeartbeats 3000000 in
theorem walk (a0 : Option Addr) (len0 cap0 : Nat) (z0 : List Int) (w : World) (w0 : IsRow .u8 w a0 len0 cap0 z0) :
    Calls Try.prog 5 #[.slice a0 len0 cap0] w fun e w' => e = .returned (.bool true) ∧ Below w.heap.size w w' := by
  have hc := code_of w0
  clear w0
  have HC := Lib.hid hc
  clear hc
  by_cases hbig : 1048576 < len0
  · go_enter Try.func5, Try.ntmps5
    go_wp2_with (go_at_call 16; refine (big_any _ _ _ _).mono ?_; rintro e w' ⟨rfl, rfl⟩)
    go_ret
    exact ⟨rfl, Below.refl _ _⟩
  · go_enter Try.func5, Try.ntmps5
    go_wp2_with (go_at_call 16; refine (big_any _ _ _ _).mono ?_; rintro e w' ⟨rfl, rfl⟩)
    refine (draw_bytes _ _ _ _ HC.out).mono ?_
    rintro e w1 ⟨l, la, lc, hl, hall, rfl, hg, ho⟩
    have H1 := Lib.hid (And.intro hg (And.intro (pk_own ho) hall))
    clear hg ho hall
    have hL40 := optsL_le l
    obtain ⟨s, hs⟩ : ∃ s, optsL l = s := ⟨_, rfl⟩
    have HSS := Lib.hid hs
    rw [hs] at hL40
    clear hs
    go_wp2_with fail
    refine (ob_impl _ _ _ _ H1.out.2.1 (by omega) (od_small hl H1.out.2.2)).mono ?_
    rintro e w2 ⟨rfl, hg⟩
    rw [HSS.out]
    have H2 := Lib.hid (And.intro (grownBy_trans H1.out.1 hg) (H1.out.2.1.kept hg))
    clear hg
    go_wp2_with fail
    refine (draw_read _ _ _ _ (HC.out.kept H2.out.1)).mono ?_
    rintro e w3 ⟨t, ht, rfl, hg⟩
    have H3 := Lib.hid (And.intro (grownBy_trans H2.out.1 hg) (H2.out.2.kept hg))
    clear hg
    have hVL := readO_len t
    obtain ⟨⟨X, D⟩, hV⟩ : ∃ V, readO t = V := ⟨_, rfl⟩
    rw [hV] at hVL
    dsimp only at hVL
    have HV := Lib.hid hV
    clear hV
    go_wp2_with fail
    refine (ro_impl t _ (by omega)).mono ?_
    rw [HV.out]
    rintro e w4 ⟨xa, xc, rfl, hg, ho⟩
    have H4 := Lib.hid (And.intro (grownBy_trans H3.out.1 hg) (And.intro (H3.out.2.kept hg) (pk_own ho)))
    clear hg ho
    go_wp2_with fail
    refine (ro_spec t _ (by omega)).mono ?_
    rw [HV.out]
    rintro e w5 ⟨ya, yc, rfl, hg, ho⟩
    have H5 := Lib.hid (And.intro (grownBy_trans H4.out.1 hg) (And.intro (H4.out.2.1.kept hg) (And.intro (H4.out.2.2.kept hg) (pk_own ho))))
    clear hg ho
    go_wp2_with fail
    refine (draw_of _ _ _ _ (HC.out.kept H5.out.1)).mono ?_
    rintro e w6 ⟨m, ma, mc, kk, hm3, hmall, hk0, hk1, rfl, hg, hmr⟩
    have H6 := Lib.hid (And.intro (grownBy_trans H5.out.1 hg) (And.intro (H5.out.2.1.kept hg) (And.intro (H5.out.2.2.1.kept hg) (And.intro (H5.out.2.2.2.kept hg) (And.intro hmr hmall)))))
    clear hg hmr hmall
    obtain ⟨⟨VB, VD⟩, hVV⟩ : ∃ V, oofF m kk = V := ⟨_, rfl⟩
    have HVV := Lib.hid hVV
    clear hVV
    go_wp2_with fail
    refine (oof_impl _ _ _ kk _ H6.out.2.2.2.2.1 (by omega) (od_small hm3 H6.out.2.2.2.2.2)).mono ?_
    rw [HVV.out]
    rintro e w7 ⟨rfl, hg⟩
    dsimp only
    have H7 := Lib.hid (And.intro (grownBy_trans H6.out.1 hg) (And.intro (H6.out.2.1.kept hg) (And.intro (H6.out.2.2.1.kept hg) (And.intro (H6.out.2.2.2.1.kept hg) (H6.out.2.2.2.2.1.kept hg)))))
    clear hg
    go_wp2_with fail
    refine (oof_spec _ _ _ kk _ H7.out.2.2.2.2 (by omega) (od_small hm3 H6.out.2.2.2.2.2)).mono ?_
    rw [HVV.out]
    rintro e w8 ⟨rfl, hg⟩
    dsimp only
    have H8 := Lib.hid (And.intro (grownBy_trans H7.out.1 hg) (And.intro (H7.out.2.1.kept hg) (And.intro (H7.out.2.2.1.kept hg) (H7.out.2.2.2.1.kept hg))))
    clear hg
    go_wp2_with fail
    refine (draw_ok _ _ _ _ (HC.out.kept H8.out.1)).mono ?_
    rintro e w9 ⟨z, za, zc, hz3, hzall, rfl, hg, hzo⟩
    have H9 := Lib.hid (And.intro (grownBy_trans H8.out.1 hg) (And.intro (H8.out.2.1.kept hg) (And.intro (H8.out.2.2.1.kept hg) (And.intro (H8.out.2.2.2.kept hg) (And.intro (pk_own hzo) hzall)))))
    clear hg hzo hzall
    go_wp2_with fail
    refine (ob_spec _ _ _ _ H9.out.2.1 (by omega) (od_small hl H1.out.2.2)).mono ?_
    rintro e w10 ⟨rfl, hg⟩
    rw [HSS.out]
    have H10 := Lib.hid (And.intro (grownBy_trans H9.out.1 hg) (And.intro (H9.out.2.1.kept hg) (And.intro (H9.out.2.2.1.kept hg) (And.intro (H9.out.2.2.2.1.kept hg) (H9.out.2.2.2.2.1.kept hg)))))
    clear hg
    have hDD : (D != D) = false := by simp
    have hVD : (VD != VD) = false := by simp
    obtain ⟨ZB, hZB⟩ : ∃ b, opsOk z = b := ⟨_, rfl⟩
    have HZB := Lib.hid hZB
    clear hZB
    have hZZ : (ZB != ZB) = false := by simp
    go_wp2_with fail
    refine (same_opts _ _ _ _ _ _ H10.out.2.2.1 H10.out.2.2.2.1 (by omega)).mono ?_
    rintro e w11 ⟨rfl, hg⟩
    have H11 := Lib.hid (And.intro (grownBy_trans H10.out.1 hg) (And.intro (H10.out.2.1.kept hg) (And.intro (H10.out.2.2.1.kept hg) (And.intro (H10.out.2.2.2.1.kept hg) (H10.out.2.2.2.2.kept hg)))))
    clear hg
    go_wp2_with fail
    refine (ops_impl _ _ _ _ H11.out.2.2.2.2 (by omega) (od_small hz3 H9.out.2.2.2.2.2)).mono ?_
    rintro e w12 ⟨rfl, hg⟩
    rw [HZB.out]
    have H12 := Lib.hid (And.intro (grownBy_trans H11.out.1 hg) (And.intro (H11.out.2.1.kept hg) (And.intro (H11.out.2.2.1.kept hg) (And.intro (H11.out.2.2.2.1.kept hg) (H11.out.2.2.2.2.kept hg)))))
    clear hg
    go_wp2_with fail
    refine (ops_spec _ _ _ _ H12.out.2.2.2.2 (by omega) (od_small hz3 H9.out.2.2.2.2.2)).mono ?_
    rintro e w13 ⟨rfl, hg⟩
    rw [HZB.out]
    have H13 := Lib.hid (And.intro (grownBy_trans H12.out.1 hg) (And.intro (H12.out.2.1.kept hg) (And.intro (H12.out.2.2.1.kept hg) (And.intro (H12.out.2.2.2.1.kept hg) (H12.out.2.2.2.2.kept hg)))))
    clear hg
    go_wp2_with fail
    refine (ops_spec _ _ _ _ H13.out.2.1 (by omega) (od_small hl H1.out.2.2)).mono ?_
    rintro e w14 ⟨rfl, hg⟩
    have H14 := Lib.hid (And.intro (grownBy_trans H13.out.1 hg) (And.intro (H13.out.2.1.kept hg) (And.intro (H13.out.2.2.1.kept hg) (And.intro (H13.out.2.2.2.1.kept hg) (H13.out.2.2.2.2.kept hg)))))
    clear hg
    by_cases hP : opsP l
    · rw [ops_yes hP]
      have HP := Lib.hid hP
      have h4 := opts_le l hP
      rw [HSS.out] at h4
      obtain ⟨h40, hmod⟩ := h4
      have HM := Lib.hid (show (((s.length : Int) % 4) == 0) = true by simp; omega)
      have hRB := read_back l hP
      rw [HSS.out] at hRB
      have HRB := Lib.hid hRB
      clear hP hRB hmod
      go_wp2_with fail
      refine (ro_impl s _ (by omega)).mono ?_
      rw [HRB.out]
      rintro e w15 ⟨ra, rc, rfl, hg, ho⟩
      have H15 := Lib.hid (And.intro (grownBy_trans H14.out.1 hg) (And.intro (H14.out.2.1.kept hg) (pk_own ho)))
      clear hg ho
      have hm4 := HM.out
      have hm5 : (((s.length : Int) % 4) != 0) = false := by rw [bne, hm4]; rfl
      have h40i : ¬ (40 : Int) < (s.length : Int) := by omega
      go_wp2_with fail
      refine (same_opts _ _ _ _ _ _ H15.out.2.2 H15.out.2.1 (by omega)).mono ?_
      rintro e w16 ⟨rfl, hg⟩
      have H16 := Lib.hid (And.intro (grownBy_trans H15.out.1 hg) (H15.out.2.1.kept hg))
      clear hg
      go_wp2_with fail
      go_loopw [19] (fun i wr => EqRel w16 l.length i wr) (fun i _ => l.length - (intOf i).toNat)
      case atStart => exact ⟨0, Nat.zero_le _, rfl, World.grownBy.refl _ _⟩
      case round =>
        obtain ⟨j, hj, rfl, hg⟩ := hrel
        have HS := Lib.hid hg
        clear hg
        by_cases hlt : j < l.length
        · have HLR := Lib.hid (H16.out.2.kept HS.out)
          rcases H16.out.2 with h0 | ⟨b, off, rfl, hb, hc⟩
          · rw [h0] at hlt
            simp at hlt
          · have c0 := HS.out.cell (hc j hlt).1 (by simp)
            have hlt' : (j : Int) < (l.length : Int) := by omega
            have hOM := Lib.hid (oof_mem HP.out hlt)
            by_cases hj0 : j = 0
            · subst hj0
              have HOF := Lib.hid (oof_first HP.out hlt)
              have HC1 := Lib.hid (hc 0 hlt).2
              have hl0 : 0 < l.length := hlt
              have hl0i : (0 : Int) < (l.length : Int) := by omega
              clear hc
              generalize l[0] = x at *
              obtain ⟨k, body⟩ := x
              dsimp only at c0 HOF HC1
              rw [Nat.zero_mul, Nat.add_zero] at c0 HC1
              go_wp2_with fail
              refine (oof_impl _ _ l k _ HLR.out (by omega) (od_small hl H1.out.2.2)).mono ?_
              rw [HOF.out]
              rintro e w17 ⟨rfl, hg⟩
              dsimp only
              have c1 := hg.cell (HS.out.cell HC1.out (by simp)) (by simp)
              have HG := Lib.hid (grownBy_trans HS.out hg)
              clear hg c0
              go_wp2_with fail
              go_roundw
              case rel => exact ⟨0 + 1, hlt, by go_num, HG.out⟩
              case measure => simp [intOf]; omega
            · clear hc
              generalize l[j] = x at *
              obtain ⟨k, body⟩ := x
              dsimp only at c0 hOM
              obtain ⟨⟨VB2, VD2⟩, hV2⟩ : ∃ V, oofF l k = V := ⟨_, rfl⟩
              have HV2 := Lib.hid hV2
              have hgood : VD2 = true := by have h := hOM.out; rw [hV2] at h; exact h
              subst hgood
              clear hV2 hOM
              have hjb : ((j : Int) == 0) = false := by simp; omega
              have HJ := Lib.hid hj0
              clear hj0
              go_wp2_with fail
              refine (oof_impl _ _ l k _ HLR.out (by omega) (od_small hl H1.out.2.2)).mono ?_
              rw [HV2.out]
              rintro e w17 ⟨rfl, hg⟩
              dsimp only
              have HG := Lib.hid (grownBy_trans HS.out hg)
              clear hg c0
              go_wp2_with fail
              go_roundw
              case rel => exact ⟨j + 1, hlt, by go_num, HG.out⟩
              case measure => simp [intOf]; omega
        · obtain rfl : j = l.length := by omega
          go_wp2_with fail
          go_ret
          exact ⟨rfl, below_new (grownBy_trans H16.out.1 HS.out)⟩
    · rw [ops_no hP]
      clear hP
      have hDE : (D == D) = true := by simp
      have hVE : (VD == VD) = true := by simp
      have hZE : (ZB == ZB) = true := by simp
      go_wp2_with fail
      refine (ob_spec _ _ _ _ H14.out.2.1 (by omega) (od_small hl H1.out.2.2)).mono ?_
      rintro e w15 ⟨rfl, hg⟩
      rw [HSS.out]
      have H15 := Lib.hid (And.intro (grownBy_trans H14.out.1 hg) (And.intro (H14.out.2.2.1.kept hg) (And.intro (H14.out.2.2.2.1.kept hg) (H14.out.2.2.2.2.kept hg))))
      clear hg
      go_wp2_with fail
      refine (same_opts _ _ _ _ _ _ H15.out.2.1 H15.out.2.2.1 (by omega)).mono ?_
      rintro e w16 ⟨rfl, hg⟩
      have H16 := Lib.hid (And.intro (grownBy_trans H15.out.1 hg) (H15.out.2.2.2.kept hg))
      clear hg
      go_wp2_with fail
      refine (ops_impl _ _ _ _ H16.out.2 (by omega) (od_small hz3 H9.out.2.2.2.2.2)).mono ?_
      rintro e w17 ⟨rfl, hg⟩
      rw [HZB.out]
      have H17 := Lib.hid (And.intro (grownBy_trans H16.out.1 hg) (H16.out.2.kept hg))
      clear hg
      go_wp2_with fail
      refine (ops_spec _ _ _ _ H17.out.2 (by omega) (od_small hz3 H9.out.2.2.2.2.2)).mono ?_
      rintro e w18 ⟨rfl, hg⟩
      rw [HZB.out]
      have H18 := Lib.hid (grownBy_trans H17.out.1 hg)
      clear hg
      go_wp2_with fail
      go_ret
      exact ⟨rfl, below_new H18.out⟩

set_option maxRecDepth 100000 in
theorem lifted (os : Os) (started : os.Started) (H : Type) (enc : TypeId × Value → H) :
    ReturnsInHanded {} Try.checked os 5 .any (Rows.fnOptionsSpec.pre6 enc Try.prog Try.f5 Rows.fnOptionsRow.domain false) (Rows.fnOptionsSpec.post enc Try.prog Try.f5 false true false false) := by
  refine returnsInHanded_of_change (C := Try.checked) own started (by kernel_rfl) Try.func5
    (ChangeSpec.witness6 (enc := enc) (C := Try.checked) false ⟨#[], #[.slice none 0 0], []⟩ 8 (by kernel_rfl) (by kernel_rfl) (by kernel_rfl) (by kernel_rfl)) ?_
  intro W base args ds gs before hval0 hW hcnd _
  have hval : ∀ (j : Nat) t v, Try.f5.params[j]? = some t → args[j]? = some v → Value.okWide Try.prog W .any base t v := hval0
  have hW' := hW
  obtain ⟨p, q, hA0, hV, rfl, hfz, hnd⟩ := hW
  have hA : DataW.TrodAll enc Try.prog W 0 (fun _ => true) true Try.f5.params.toList args.toList ds p := hA0
  rw [Try.params5] at hA hval
  obtain ⟨v0, vs0, d0, ds0, p0, q0, hargs, rfl, rfl, h0, r0⟩ := trodAll_cons hA
  obtain ⟨rfl, rfl, rfl⟩ := trodAll_nil r0
  obtain rfl : args = #[v0] := by cases args; simp_all
  obtain ⟨rfl, rfl⟩ := trodVars_none hV
  have k0 := h0
  have lt0 : ∀ x ∈ p0, x.block < W.heap.size := by obtain ⟨m, hm⟩ := k0; exact DataW.trod_lt m _ _ _ hm
  obtain ⟨a0, len0, cap0, rfl⟩ := okWide_slice Try.underlying33 (hval 0 33 v0 rfl rfl)
  obtain ⟨z0, w0⟩ : ∃ zs, IsRow .u8 W a0 len0 cap0 zs := by
    obtain ⟨fuel, hf⟩ := h0
    rcases open_ints Try.underlying33 Try.underlying5 (by kernel_rfl) hf with ⟨hcs, _⟩ | ⟨x, l, c, zs, hcs, _, hl, hm, hz, _, hcell, hwz⟩
    · simp [Value.cells] at hcs
      obtain ⟨rfl, rfl, rfl⟩ := hcs
      exact ⟨[], .inl ⟨rfl, rfl, rfl, rfl⟩⟩
    · simp [Value.cells] at hcs
      obtain ⟨rfl, rfl, rfl⟩ := hcs
      exact ⟨zs, .inr ⟨_, rfl, hl, hm, by simpa using hz, hcell, hwz⟩⟩
  clear hA0 hval0
  refine (walk a0 len0 cap0 z0 W w0).mono fun e W' ⟨he, bel⟩ => ?_
  subst he
  exact ⟨_, rfl, _, _, _, [], _, [], hW', trodAll_mk1 (shut_bool Try.underlying4 _), (trodAll_cons_mk (Below.trod laidOut (by kernel_rfl) (of_decide_eq_true (by kernel_rfl)) k0 bel lt0) trodAll_mk0), rfl, bel.frame _, fun h => by cases h⟩

theorem over : Rows.fnOptionsRow.holds Try.pinned (OpenSpec.ofChange Rows.fnOptionsSpec) :=
  OpenClaim.holds_of_wide 5 Try.f5 rfl rfl rfl rfl rfl rfl rfl ⟨rfl, rfl, rfl, rfl, rfl⟩ rfl rfl rfl rfl rfl (by kernel_rfl) Try.func5 (by kernel_rfl)
    (of_decide_eq_true (by kernel_rfl)) (by unfold Func.isWrapper; first | (rw [if_pos (by decide +kernel)]; kernel_rfl) | (rw [if_neg (by decide +kernel)]; exact ⟨rfl, rfl⟩))
    (fun os started H enc _ => lifted os started H enc)

theorem proved : Rows.FnOptionsSaid := over
end Go.Proofs.Ytefpnbmjcailgaa.fnOptions
