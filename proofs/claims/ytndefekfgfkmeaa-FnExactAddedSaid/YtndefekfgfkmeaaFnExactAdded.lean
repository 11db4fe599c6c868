/- For every row of pieces and every piece the law FnExactAdded answers true and leaves its arguments as they were; no condition. -/
import Derived.Test.YtndefekfgfkmeaaRows
import Derived.Test.YtndefekfgfkmeaaDraw
import Derived.Test.YtndefekfgfkmeaaDrawB
import Derived.Test.YtndefekfgfkmeaaPcSz
import Derived.WalkKit
import Derived.ProofKit
import Derived.OpenShut
import Derived.ShutString
import Derived.ChangeOld
import Derived.Below
import Derived.Lib.SmallJoins
import Derived.Deep.SlicePairs
namespace Go.Proofs.Ytndefekfgfkmeaa.fnExactAdded
open Go.ChangeShapes Go.WideShapes Go.ChangeAt Go.RowKit Go.Joins
open Go.ChangeMaps (open_string shut_string)
set_option linter.unusedVariables false

theorem own : ownKnob Try.prog.godebug = none := by kernel_rfl
theorem laidOut : laidOutB Try.prog = true := by kernel_rfl
theorem cells48 : Try.prog.cellsOf 48 = 2 := by kernel_rfl

theorem dummy : True := trivial

set_option maxRecDepth 100000 in
set_option maxHeartbeats 16000000 in
theorem walk (a0 : Option Addr) (cap0 : Nat) (l0 : List Pk) (a1_0 : Int) (a1_1 : ByteArray) (w : World) (w0 : PkAt w a0 l0) (n0 : l0.length ≤ maxLen) (m0 : ∀ x ∈ l0, x.2.length ≤ maxLen) (w1_0 : (Lit.int .i64 a1_0).wf = true) (w1_1 : a1_1.size ≤ maxLen) :
    Calls Try.prog 9 #[.slice a0 l0.length cap0, .agg #[.int .i64 a1_0, .string a1_1]] w fun e w' => e = .returned (.bool true) ∧ Below w.heap.size w w' := by
  unfold maxLen at n0 m0
  obtain ⟨xs, rfl⟩ : ∃ l : List UInt8, a1_1 = ⟨l.toArray⟩ := ⟨a1_1.data.toList, ba_of rfl⟩
  rw [str_size] at w1_1
  unfold maxLen at w1_1
  have HA := Lib.hid (And.intro w0 m0)
  clear w0 m0 w1_0
  have HG := Lib.hid (World.grownBy_alloc w (.cells #[.int .i64 a1_0, .string ⟨xs.toArray⟩] 48) none)
  have z0 : (w.alloc (.cells #[.int .i64 a1_0, .string ⟨xs.toArray⟩] 48)).cell? ⟨w.heap.size, 0, none⟩ = some (.int .i64 a1_0) := by go_simp
  have z1 : (w.alloc (.cells #[.int .i64 a1_0, .string ⟨xs.toArray⟩] 48)).cell? ⟨w.heap.size, 1, none⟩ = some (.string ⟨xs.toArray⟩) := by go_simp
  have hsz : (w.alloc (.cells #[.int .i64 a1_0, .string ⟨xs.toArray⟩] 48)).heap.size = w.heap.size + 1 := by simp
  obtain ⟨R, hR⟩ : ∃ R, addR l0 (a1_0, xs) = R := ⟨_, rfl⟩
  obtain ⟨ok, hK⟩ : ∃ ok, addOk l0 (a1_0, xs) = ok := ⟨_, rfl⟩
  have hR61 : R.length ≤ 61 := by rw [← hR]; exact addR_len _ _
  have hRnn : 0 ≤ 1 + 2 * (R.length : Int) := by omega
  have HRK := Lib.hid (And.intro hR hK)
  clear hR hK
  go_enter Try.func9, Try.ntmps9
  go_wp2_with fail
  refine (sz_bound _ _ _ _ (HA.out.1.kept HG.out) n0 HA.out.2).mono ?_
  rintro e w2 ⟨q, rfl, hg, hqb, hq⟩
  have F2 := Lib.hid (grownBy_trans HG.out hg)
  have HS2 := Lib.hid (show w.heap.size + 1 ≤ w2.heap.size by rw [← hsz]; exact hg.size)
  have y0 := hg.cell z0 (by simp)
  have y1 := hg.cell z1 (by simp)
  clear hg z0 z1
  have z0 := y0
  have z1 := y1
  clear y0 y1
  by_cases h0 : q < 0
  · go_wp2_with fail
    go_ret
    exact ⟨rfl, below_new F2.out⟩
  · obtain ⟨hn, hm⟩ := hq (by omega)
    have hnn : ¬ 1 + 2 * (l0.length : Int) < 0 := by omega
    clear hq hm n0
    go_wp2_with fail
    refine (sz_packet a1_0 xs q _ (by omega) hqb (by omega)).mono ?_
    rintro e w3 ⟨rfl, hg⟩
    have F3 := Lib.hid (grownBy_trans F2.out hg)
    have HS3 := Lib.hid (Nat.le_trans HS2.out hg.size)
    have y0 := hg.cell z0 (by simp)
    have y1 := hg.cell z1 (by simp)
    clear hg z0 z1
    have z0 := y0
    have z1 := y1
    clear y0 y1
    by_cases hxl : (xs.length : Int) ≤ q
    · rw [if_pos hxl]
      have hxq : ¬ q - (xs.length : Int) < 0 := by omega
      go_wp2_with fail
      have y2 := grownBy_trans F3.out (grownBy_drew (r := none))
      have y0 := (grownBy_drew (r := none)).cell z0 (by simp)
      have y1 := (grownBy_drew (r := none)).cell z1 (by simp)
      clear z0 z1
      go_region_held3 (fun w' => w'.cell? ⟨w.heap.size, 0, none⟩ = some (.int .i64 a1_0) ∧ w'.cell? ⟨w.heap.size, 1, none⟩ = some (.string ⟨xs.toArray⟩) ∧ w.grownBy w' none) ((refine ⟨by first | assumption | (simp [*]; done), by first | assumption | (simp [*]; done), by first | assumption | exact grownBy_trans (by assumption) grownBy_drew⟩))
        (first
          | (go_at_call 33; refine (to_packets _ _ _ _ (HA.out.1.kept (by assumption)) hn).mono ?_; rintro e wa ⟨ga, rfl, hg, hp⟩; have q0 := hg.cell (a := ⟨w.heap.size, 0, none⟩) (v := .int .i64 a1_0) (by first | assumption | (simp [*]; done)) (by simp); have q1 := hg.cell (a := ⟨w.heap.size, 1, none⟩) (v := .string ⟨xs.toArray⟩) (by first | assumption | (simp [*]; done)) (by simp); have q2 := grownBy_trans (a := w) (by assumption) hg; have HQ := Lib.hid hp)
          | (go_at_call 36; refine (to_packet _ _ _).mono ?_; rintro e wb ⟨rfl, hg⟩; have q0 := hg.cell (a := ⟨w.heap.size, 0, none⟩) (v := .int .i64 a1_0) (by first | assumption | (simp [*]; done)) (by simp); have q1 := hg.cell (a := ⟨w.heap.size, 1, none⟩) (v := .string ⟨xs.toArray⟩) (by first | assumption | (simp [*]; done)) (by simp); have q2 := grownBy_trans (a := w) (by assumption) hg; try (have HQ := Lib.hid (HQ.out.kept hg)))
          | (go_at_call 16; refine (add_spec _ _ _ _ _ _ HQ.out (by omega)).mono ?_; rintro e wc ⟨vc, rfl, hg, ho⟩; have q0 := hg.cell (a := ⟨w.heap.size, 0, none⟩) (v := .int .i64 a1_0) (by first | assumption | (simp [*]; done)) (by simp); have q1 := hg.cell (a := ⟨w.heap.size, 1, none⟩) (v := .string ⟨xs.toArray⟩) (by first | assumption | (simp [*]; done)) (by simp); have q2 := grownBy_trans (a := w) (by assumption) hg; have HO := Lib.hid ho))
      all_goals
        rw [HRK.out.1] at HO
        obtain ⟨a4, c4, rfl⟩ := own_slice HO.out
        have hH : wc.cell? ⟨w.heap.size, 0, none⟩ = some (.int .i64 a1_0) ∧ wc.cell? ⟨w.heap.size, 1, none⟩ = some (.string ⟨xs.toArray⟩) ∧ w.grownBy wc none := by assumption
        obtain ⟨z0, z1, hf4⟩ := hH
        have HZ4 := Lib.hid z0
        have F4 := Lib.hid hf4
        have VS := Lib.hid (own_base HO.out (show w.heap.size ≤ wb.heap.size by first | exact (show w.grownBy wb none by assumption).size | exact (show w.grownBy wa none by assumption).size))
        rw [HRK.out.2]
        clear hf4 HO HQ
        go_wp2_with fail
        refine (to_owned _ _ _ _ (HA.out.1.kept F4.out) hn).mono ?_
        rintro e w5 ⟨g5, rfl, hg, ho⟩
        have F5 := Lib.hid (grownBy_trans F4.out hg)
        have y0 := hg.cell z0 (by simp)
        have A_VS_X0 := Lib.hid (own_apart1 VS.out ho (Nat.le_refl _))
        have y1 := hg.cell z1 (by simp)
        have VS := Lib.hid (own_kept VS.out hg)
        clear z0 z1
        have z0 := y0
        have z1 := y1
        clear y0 y1
        have X0 := Lib.hid ho
        have L_X0 := Lib.hid F4.out.size
        have L2_X0 := Lib.hid (World.block_lt_of_cell? wc _ (show wc.cell? ⟨w.heap.size, 0, none⟩ = _ from HZ4.out))
        clear hg ho
        go_wp2_with fail
        refine (to_packet _ _ _).mono ?_
        rintro e w6 ⟨rfl, hg⟩
        have F6 := Lib.hid (grownBy_trans F5.out hg)
        have y0 := hg.cell z0 (by simp)
        have y1 := hg.cell z1 (by simp)
        have VS := Lib.hid (own_kept VS.out hg)
        have X0 := Lib.hid (own_kept X0.out hg)
        clear z0 z1
        have z0 := y0
        have z1 := y1
        clear y0 y1
        clear hg
        have L_VI := Lib.hid F6.out.size
        have L2_VI := Lib.hid (World.block_lt_of_cell? w6 _ z0)
        go_wp2_with fail
        refine (add_impl _ _ _ _ _ _ (row_own X0.out)).mono ?_
        rintro e w7 ⟨v7, rfl, hg, ho⟩
        rw [HRK.out.1] at ho
        obtain ⟨a7, c7, rfl⟩ := own_slice ho
        rw [HRK.out.2]
        have A_VS_VI := Lib.hid (own_apart1 VS.out ho (Nat.le_refl _))
        have A_X0_VI := Lib.hid (own_apart1 X0.out ho (Nat.le_refl _))
        have A_VI_X0 := Lib.hid (own_apart2 X0.out ho (Nat.le_refl _))
        have F7 := Lib.hid (grownBy_trans F6.out hg)
        have y0 := hg.cell z0 (by simp)
        have y1 := hg.cell z1 (by simp)
        have VS := Lib.hid (own_kept VS.out hg)
        have X0 := Lib.hid (own_kept X0.out hg)
        clear z0 z1
        have z0 := y0
        have z1 := y1
        clear y0 y1
        have VI := Lib.hid ho
        clear hg ho
        go_wp2_with fail
        refine (eq_packets _ _ _ _ _ _ (pk_own VI.out) (pk_own VS.out) (by omega)).mono ?_
        rintro e w8 ⟨rfl, hg⟩
        have F8 := Lib.hid (grownBy_trans F7.out hg)
        have y0 := hg.cell z0 (by simp)
        have y1 := hg.cell z1 (by simp)
        have VS := Lib.hid (own_kept VS.out hg)
        have X0 := Lib.hid (own_kept X0.out hg)
        have VI := Lib.hid (own_kept VI.out hg)
        clear z0 z1
        have z0 := y0
        have z1 := y1
        clear y0 y1
        clear hg
        go_wp2_with fail
        refine (to_packets _ _ _ _ (HA.out.1.kept F8.out) hn).mono ?_
        rintro e w9 ⟨g9, rfl, hg, hp⟩
        have F9 := Lib.hid (grownBy_trans F8.out hg)
        have y0 := hg.cell z0 (by simp)
        have y1 := hg.cell z1 (by simp)
        have VS := Lib.hid (own_kept VS.out hg)
        have X0 := Lib.hid (own_kept X0.out hg)
        have VI := Lib.hid (own_kept VI.out hg)
        clear z0 z1
        have z0 := y0
        have z1 := y1
        clear y0 y1
        have P9 := Lib.hid hp
        clear hg hp
        go_wp2_with fail
        refine (eq_packets _ _ _ _ _ _ (pk_own X0.out) P9.out hn).mono ?_
        rintro e w10 ⟨rfl, hg⟩
        have F10 := Lib.hid (grownBy_trans F9.out hg)
        have y0 := hg.cell z0 (by simp)
        have y1 := hg.cell z1 (by simp)
        have VS := Lib.hid (own_kept VS.out hg)
        have X0 := Lib.hid (own_kept X0.out hg)
        have VI := Lib.hid (own_kept VI.out hg)
        have P9 := Lib.hid (P9.out.kept hg)
        clear z0 z1
        have z0 := y0
        have z1 := y1
        clear y0 y1
        clear hg P9
        go_wp2_with fail
        refine (mark_any _ _ _ _ _ hn X0.out).mono ?_
        rintro e w11 ⟨rfl, hg, ho⟩
        have F11 := Lib.hid (grown_row_none F10.out hg X0.out L_X0.out)
        have hnb : some w.heap.size ≠ _ := fun e => by have := ((X0.out.lt _ e.symm).1); have := L2_X0.out; omega
        have y0 := hg.cell z0 hnb
        have y1 := hg.cell z1 hnb
        have VS := Lib.hid (VS.out.kept hg A_VS_X0.out)
        have VI := Lib.hid (VI.out.kept hg A_VI_X0.out)
        have X0 := Lib.hid ho
        clear z0 z1
        have z0 := y0
        have z1 := y1
        clear y0 y1
        clear hg ho hnb
        go_wp2_with fail
        refine (eq_packets _ _ _ _ _ _ (pk_own VI.out) (pk_own VS.out) (by omega)).mono ?_
        rintro e w12 ⟨rfl, hg⟩
        have F12 := Lib.hid (grownBy_trans F11.out hg)
        have y0 := hg.cell z0 (by simp)
        have y1 := hg.cell z1 (by simp)
        have VS := Lib.hid (own_kept VS.out hg)
        have VI := Lib.hid (own_kept VI.out hg)
        clear z0 z1
        have z0 := y0
        have z1 := y1
        clear y0 y1
        clear hg
        go_wp2_with fail
        refine (mark_any _ _ _ _ _ (by omega) VI.out).mono ?_
        rintro e w13 ⟨rfl, hg, ho⟩
        have F13 := Lib.hid (grown_row_none F12.out hg VI.out L_VI.out)
        have hnb : some w.heap.size ≠ _ := fun e => by have := ((VI.out.lt _ e.symm).1); have := L2_VI.out; omega
        have y0 := hg.cell z0 hnb
        have y1 := hg.cell z1 hnb
        have VS := Lib.hid (VS.out.kept hg A_VS_VI.out)
        have VI := Lib.hid ho
        clear z0 z1
        have z0 := y0
        have z1 := y1
        clear y0 y1
        clear hg ho hnb
        go_wp2_with fail
        refine (held_any _ _ _ _ (pk_mark VI.out) (by omega)).mono ?_
        rintro e w14 ⟨rfl, hg⟩
        have F14 := Lib.hid (grownBy_trans F13.out hg)
        have y0 := hg.cell z0 (by simp)
        have y1 := hg.cell z1 (by simp)
        have VS := Lib.hid (own_kept VS.out hg)
        have VI := Lib.hid (own_kept VI.out hg)
        clear z0 z1
        have z0 := y0
        have z1 := y1
        clear y0 y1
        clear hg
        go_wp2_with fail
        have y2 := grownBy_trans F14.out (grownBy_drew (r := none))
        have y0 := (grownBy_drew (r := none)).cell z0 (by simp)
        have y1 := (grownBy_drew (r := none)).cell z1 (by simp)
        have VS := Lib.hid (own_kept VS.out (grownBy_drew (r := none)))
        have VI := Lib.hid (own_kept VI.out (grownBy_drew (r := none)))
        clear z0 z1
        go_region_held3 (fun w' => w'.cell? ⟨w.heap.size, 0, none⟩ = some (.int .i64 a1_0) ∧ w'.cell? ⟨w.heap.size, 1, none⟩ = some (.string ⟨xs.toArray⟩) ∧ w.grownBy w' none) ((refine ⟨by first | assumption | (simp [*]; done), by first | assumption | (simp [*]; done), by first | assumption | exact grownBy_trans (by assumption) grownBy_drew⟩))
          (first
            | (go_at_call 33; refine (to_owned _ _ _ _ (HA.out.1.kept (by assumption)) hn).mono ?_; rintro e wa ⟨ga, rfl, hg, hp⟩; have q0 := hg.cell (a := ⟨w.heap.size, 0, none⟩) (v := .int .i64 a1_0) (by first | assumption | (simp [*]; done)) (by simp); have q1 := hg.cell (a := ⟨w.heap.size, 1, none⟩) (v := .string ⟨xs.toArray⟩) (by first | assumption | (simp [*]; done)) (by simp); have q2 := grownBy_trans (a := w) (by assumption) hg; have HQ := Lib.hid (row_own hp); have VS := Lib.hid (own_kept VS.out hg); have VI := Lib.hid (own_kept VI.out hg))
            | (go_at_call 36; refine (to_packet _ _ _).mono ?_; rintro e wb ⟨rfl, hg⟩; have q0 := hg.cell (a := ⟨w.heap.size, 0, none⟩) (v := .int .i64 a1_0) (by first | assumption | (simp [*]; done)) (by simp); have q1 := hg.cell (a := ⟨w.heap.size, 1, none⟩) (v := .string ⟨xs.toArray⟩) (by first | assumption | (simp [*]; done)) (by simp); have q2 := grownBy_trans (a := w) (by assumption) hg; try (have HQ := Lib.hid (HQ.out.kept hg)); have VS := Lib.hid (own_kept VS.out hg); have VI := Lib.hid (own_kept VI.out hg))
            | (go_at_call 15; refine (add_impl _ _ _ _ _ _ HQ.out).mono ?_; rintro e wc ⟨vc, rfl, hg, ho⟩; have q0 := hg.cell (a := ⟨w.heap.size, 0, none⟩) (v := .int .i64 a1_0) (by first | assumption | (simp [*]; done)) (by simp); have q1 := hg.cell (a := ⟨w.heap.size, 1, none⟩) (v := .string ⟨xs.toArray⟩) (by first | assumption | (simp [*]; done)) (by simp); have q2 := grownBy_trans (a := w) (by assumption) hg; have VS := Lib.hid (own_kept VS.out hg); have VI := Lib.hid (own_kept VI.out hg); have HO := Lib.hid ho))
        all_goals
          rw [HRK.out.1] at HO
          obtain ⟨a22, c22, rfl⟩ := own_slice HO.out
          have hf22 : w.grownBy wc none := by assumption
          have F22 := Lib.hid hf22
          rw [HRK.out.2]
          go_wp2_with fail
          refine (eq_packets _ _ _ _ _ _ (pk_own HO.out) (pk_own VS.out) (by omega)).mono ?_
          rintro e w23 ⟨rfl, hg⟩
          have F23 := Lib.hid (grownBy_trans F22.out hg)
          have VI := Lib.hid (own_kept VI.out hg)
          clear hg
          go_wp2_with fail
          refine (held_any _ _ _ _ (pk_mark VI.out) (by omega)).mono ?_
          rintro e w24 ⟨rfl, hg⟩
          have F24 := Lib.hid (grownBy_trans F23.out hg)
          clear hg
          go_wp2_with fail
          go_ret
          exact ⟨rfl, below_new F24.out⟩
    · rw [if_neg hxl]
      go_wp2_with fail
      go_ret
      exact ⟨rfl, below_new F3.out⟩

set_option maxRecDepth 100000 in
theorem lifted (os : Os) (started : os.Started) (H : Type) (enc : TypeId × Value → H) :
    ReturnsInHanded {} Try.checked os 9 .any (Rows.fnExactAddedSpec.pre6 enc Try.prog Try.f9 Rows.fnExactAddedRow.domain false) (Rows.fnExactAddedSpec.post enc Try.prog Try.f9 false true false false) := by
  refine returnsInHanded_of_change (C := Try.checked) own started (by kernel_rfl) Try.func9
    (ChangeSpec.witness6 (enc := enc) (C := Try.checked) false ⟨#[], #[.slice none 0 0, .agg #[.int .i64 0, .string ByteArray.empty]], []⟩ 8 (by kernel_rfl) (by kernel_rfl) (by kernel_rfl) (by kernel_rfl)) ?_
  intro W base args ds gs before hval0 hW hcnd _
  have hval : ∀ (j : Nat) t v, Try.f9.params[j]? = some t → args[j]? = some v → Value.okWide Try.prog W .any base t v := hval0
  have hW' := hW
  obtain ⟨p, q, hA0, hV, rfl, hfz, hnd⟩ := hW
  have hA : DataW.TrodAll enc Try.prog W 0 (fun _ => true) true Try.f9.params.toList args.toList ds p := hA0
  rw [Try.params9] at hA hval
  obtain ⟨v0, vs0, d0, ds0, p0, q0, hargs, rfl, rfl, h0, r0⟩ := trodAll_cons hA
  obtain ⟨v1, vs1, d1, ds1, p1, q1, rfl, rfl, rfl, h1, r1⟩ := trodAll_cons r0
  obtain ⟨rfl, rfl, rfl⟩ := trodAll_nil r1
  obtain rfl : args = #[v0, v1] := by cases args; simp_all
  obtain ⟨rfl, rfl⟩ := trodVars_none hV
  have k0 := h0
  have lt0 : ∀ x ∈ p0, x.block < W.heap.size := by obtain ⟨m, hm⟩ := k0; exact DataW.trod_lt m _ _ _ hm
  obtain ⟨a0, len0, cap0, rfl⟩ := okWide_slice Try.underlying44 (hval 0 44 v0 rfl rfl)
  obtain ⟨l0, e0, w0, n0, m0⟩ : ∃ l : List Pk, l.length = len0 ∧ PkAt W a0 l ∧ l.length ≤ maxLen ∧ ∀ x ∈ l, x.2.length ≤ maxLen := by
    obtain ⟨fuel, hf⟩ := h0
    rcases Deep.open_slice_pairs Try.underlying44 Try.underlying48 cells48 rfl rfl (by kernel_rfl) (by kernel_rfl) hf with ⟨hcs, _⟩ | ⟨x, l, c, m, n, V0, V1, D0, D1, P0, P1, hcs, _, hl, hm, hmm, _, hall⟩
    · simp [Value.cells] at hcs
      obtain ⟨rfl, rfl, rfl⟩ := hcs
      exact ⟨[], rfl, .inl rfl, Nat.zero_le _, by simp⟩
    · simp [Value.cells] at hcs
      obtain ⟨rfl, rfl, rfl⟩ := hcs
      have hmc : m = cap0 := by simpa using hmm
      obtain ⟨ps, hlen, hps⟩ := list_of (P := fun i (p : Pk) => W.cell? (x.add (i * 2)) = some (.int .i64 p.1) ∧ W.cell? (x.add (i * 2 + 1)) = some (.string ⟨p.2.toArray⟩) ∧ p.2.length ≤ maxLen) len0 (fun i hi => by
        obtain ⟨c0, c1, t0, t1⟩ := hall i (by omega)
        obtain ⟨u, e0, _, wu⟩ := DataW.trod_int Try.underlying2 t0
        obtain ⟨s, e1, _, ws⟩ := DataW.trod_string Try.underlying9 t1
        simp only [List.cons.injEq, and_true] at e0 e1
        rw [e0] at c0
        rw [e1] at c1
        exact ⟨(u, s.data.toList), c0, by simpa using c1, ws⟩)
      refine ⟨ps, hlen, pkAt_of fun i hi => ⟨(hps i hi).1, (hps i hi).2.1⟩, by omega, fun x hx => ?_⟩
      obtain ⟨i, hi, rfl⟩ := List.getElem_of_mem hx
      exact (hps i hi).2.2
  subst e0
  have k1 := h1
  have lt1 : ∀ x ∈ p1, x.block < W.heap.size := by obtain ⟨m, hm⟩ := k1; exact DataW.trod_lt m _ _ _ hm
  obtain ⟨c1_0, c1_1, y1_0, y1_1, m1, rfl, rfl, rfl, hy1_0, hy1_1⟩ := open_agg2 Try.underlying48 (by kernel_rfl) cells48 (hval 1 48 v1 rfl rfl) h1
  obtain ⟨a1_0, e1_0, rfl, w1_0⟩ := DataW.trod_int Try.underlying2 hy1_0
  simp only [List.cons.injEq, and_true] at e1_0
  subst e1_0
  obtain ⟨a1_1, e1_1, rfl, w1_1⟩ := DataW.trod_string Try.underlying9 hy1_1
  simp only [List.cons.injEq, and_true] at e1_1
  subst e1_1
  clear hA0 hval0
  refine (walk a0 cap0 l0 a1_0 a1_1 W w0 n0 m0 w1_0 w1_1).mono fun e W' ⟨he, bel⟩ => ?_
  subst he
  exact ⟨_, rfl, _, _, _, [], _, [], hW', trodAll_mk1 (shut_bool Try.underlying4 _), (trodAll_cons_mk (Below.trod laidOut (by kernel_rfl) (of_decide_eq_true (by kernel_rfl)) k0 bel lt0) (trodAll_cons_mk (Below.trod laidOut (by kernel_rfl) (of_decide_eq_true (by kernel_rfl)) k1 bel lt1) trodAll_mk0)), rfl, bel.frame _, fun h => by cases h⟩

theorem over : Rows.fnExactAddedRow.holds Try.pinned (OpenSpec.ofChange Rows.fnExactAddedSpec) :=
  OpenClaim.holds_of_wide 9 Try.f9 rfl rfl rfl rfl rfl rfl rfl ⟨rfl, rfl, rfl, rfl, rfl⟩ rfl rfl rfl rfl rfl (by kernel_rfl) Try.func9 (by kernel_rfl)
    (of_decide_eq_true (by kernel_rfl)) (by unfold Func.isWrapper; first | (rw [if_pos (by decide +kernel)]; kernel_rfl) | (rw [if_neg (by decide +kernel)]; exact ⟨rfl, rfl⟩))
    (fun os started H enc _ => lifted os started H enc)

theorem proved : Rows.FnExactAddedSaid := over
end Go.Proofs.Ytndefekfgfkmeaa.fnExactAdded
