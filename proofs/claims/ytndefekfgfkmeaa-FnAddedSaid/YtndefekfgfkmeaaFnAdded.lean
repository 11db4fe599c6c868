/- For every drawn row of pieces the law FnAdded answers true; no condition. -/
import Derived.Test.YtndefekfgfkmeaaRows
import Derived.Test.YtndefekfgfkmeaaDraw
import Derived.Test.YtndefekfgfkmeaaDrawB
import Derived.Test.YtndefekfgfkmeaaPcApt
import Derived.WalkKit
import Derived.ProofKit
import Derived.OpenShut
import Derived.ShutString
import Derived.ChangeOld
import Derived.Below
import Derived.Lib.SmallJoins
namespace Go.Proofs.Ytndefekfgfkmeaa.fnAdded
open Go.ChangeShapes Go.WideShapes Go.ChangeAt Go.RowKit Go.Joins
open Go.ChangeMaps (open_string shut_string)
set_option linter.unusedVariables false

theorem own : ownKnob Try.prog.godebug = none := by kernel_rfl
theorem laidOut : laidOutB Try.prog = true := by kernel_rfl


def IsRow (k : IntKind) (w : World) (a : Option Addr) (len cap : Nat) (zs : List Int) : Prop :=
  (a = none ∧ len = 0 ∧ cap = 0 ∧ zs = []) ∨
  ∃ x, a = some x ∧ len ≤ cap ∧ cap ≤ maxLen ∧ zs.length = cap ∧ (∀ i, i < zs.length → w.cell? (x.add i) = some (.int k (zs.getD i 0))) ∧ ∀ n ∈ zs, (Lit.int k n).wf = true

def AdlRel (w : World) (a : Value) (wr : World) : Prop :=
  ∃ A : Nat, A ≤ 60 ∧ a = .int .i64 (A : Int) ∧ w.grownBy wr none

set_option maxRecDepth 100000 in
set_option maxHeartbeats 8000000 in
theorem walk (a0 : Option Addr) (len0 cap0 : Nat) (z0 : List Int) (w : World) (w0 : IsRow .u8 w a0 len0 cap0 z0) :
    Calls Try.prog 3 #[.slice a0 len0 cap0] w fun e w' => e = .returned (.bool true) ∧ Below w.heap.size w w' := by
  have hc := code_of w0
  have hbig0 : len0 ≤ maxLen := hc.1
  clear w0
  have HC := Lib.hid hc
  clear hc
  by_cases hbig : 1048576 < len0
  · go_enter Try.func3, Try.ntmps3
    go_wp2_with (go_at_call 13; refine (big_any _ _ _ _).mono ?_; rintro e w' ⟨rfl, rfl⟩)
    go_ret
    exact ⟨rfl, Below.refl _ _⟩
  · go_enter Try.func3, Try.ntmps3
    go_wp2_with (go_at_call 13; refine (big_any _ _ _ _).mono ?_; rintro e w' ⟨rfl, rfl⟩)
    refine (draw_added _ _ _ _ HC.out).mono ?_
    rintro e w1 ⟨l, v, p, mm, hl, hnp, rfl, hg, ho⟩
    have hl4 := hl.1
    obtain ⟨a1, c1, rfl⟩ := own_slice ho
    have HL := Lib.hid (And.intro hl hnp)
    have F1 := Lib.hid (grownBy_trans hg (World.grownBy_alloc w1 (.cells #[.int .i64 p, .string ⟨mm.toArray⟩] 26) none))
    have R1 := Lib.hid ((row_own ho).kept (World.grownBy_alloc w1 (.cells #[.int .i64 p, .string ⟨mm.toArray⟩] 26) none))
    have T1 := two_new w1 (.int .i64 p) (.string ⟨mm.toArray⟩) 26
    have hE : w.heap.size ≤ w1.heap.size := hg.size
    clear hg ho hl hnp
    go_wp2_with fail
    generalize w1.alloc (.cells #[.int .i64 p, .string ⟨mm.toArray⟩] 26) = w2 at *
    generalize w1.heap.size = E at *
    obtain ⟨z0, z1, _, _⟩ := T1
    obtain ⟨ok, hK⟩ : ∃ ok, addOk l (p, mm) = ok := ⟨_, rfl⟩
    have HK := Lib.hid hK
    clear hK
    refine (add_impl _ _ _ _ _ _ R1.out).mono ?_
    rintro e w3 ⟨v3, rfl, hg, ho⟩
    obtain ⟨a3, c3, rfl⟩ := own_slice ho
    rw [HK.out]
    have F3 := Lib.hid (grownBy_trans F1.out hg)
    have R1 := Lib.hid (R1.out.kept hg)
    have RN := Lib.hid (row_own ho)
    have y0 := hg.cell z0 (by simp)
    have y1 := hg.cell z1 (by simp)
    clear hg ho z0 z1
    go_wp2_with fail
    refine (add_spec _ _ _ _ _ _ R1.out.at (by omega)).mono ?_
    rintro e w4 ⟨v4, rfl, hg, ho⟩
    obtain ⟨a4, c4, rfl⟩ := own_slice ho
    rw [HK.out]
    have F4 := Lib.hid (grownBy_trans F3.out hg)
    have R1 := Lib.hid (R1.out.kept hg)
    have RN := Lib.hid (RN.out.kept hg)
    have RW := Lib.hid (row_own ho)
    have z0 := hg.cell y0 (by simp)
    have z1 := hg.cell y1 (by simp)
    clear hg ho y0 y1
    have hRl := addR_len l (p, mm)
    go_wp2_with fail
    refine (draw_ok _ _ _ _ (HC.out.kept F4.out)).mono ?_
    rintro e w5 ⟨k, v5, hk4, rfl, hg, ho⟩
    obtain ⟨a5, c5, rfl⟩ := own_slice ho
    have F5 := Lib.hid (grownBy_trans F4.out hg)
    have R1 := Lib.hid (R1.out.kept hg)
    have RN := Lib.hid (RN.out.kept hg)
    have RW := Lib.hid (RW.out.kept hg)
    have RK := Lib.hid (pk_own ho)
    have y0 := hg.cell z0 (by simp)
    have y1 := hg.cell z1 (by simp)
    clear hg ho z0 z1
    have hkk : (ok == ok) = true := by simp
    go_wp2_with fail
    refine (same_pieces _ _ _ _ _ _ RN.out.at RW.out.at (by omega)).mono ?_
    rintro e w6 ⟨rfl, hg⟩
    have F6 := Lib.hid (grownBy_trans F5.out hg)
    have R1 := Lib.hid (R1.out.kept hg)
    have RN := Lib.hid (RN.out.kept hg)
    have RW := Lib.hid (RW.out.kept hg)
    have RK := Lib.hid (RK.out.kept hg)
    have z0 := hg.cell y0 (by simp)
    have z1 := hg.cell y1 (by simp)
    clear hg y0 y1
    go_wp2_with fail
    refine (ok_impl _ _ _ _ RK.out).mono ?_
    rintro e w7 ⟨rfl, hg⟩
    have F7 := Lib.hid (grownBy_trans F6.out hg)
    have R1 := Lib.hid (R1.out.kept hg)
    have RN := Lib.hid (RN.out.kept hg)
    have RW := Lib.hid (RW.out.kept hg)
    have RK := Lib.hid (RK.out.kept hg)
    have y0 := hg.cell z0 (by simp)
    have y1 := hg.cell z1 (by simp)
    clear hg z0 z1
    obtain ⟨kk, hkk2⟩ : ∃ kk, pcsOk k = kk := ⟨_, rfl⟩
    have HKK := Lib.hid hkk2
    rw [hkk2]
    clear hkk2
    go_wp2_with fail
    refine (ok_spec _ _ _ _ RK.out (by omega)).mono ?_
    rintro e w8 ⟨rfl, hg⟩
    rw [HKK.out]
    have F8 := Lib.hid (grownBy_trans F7.out hg)
    have R1 := Lib.hid (R1.out.kept hg)
    have RN := Lib.hid (RN.out.kept hg)
    have RW := Lib.hid (RW.out.kept hg)
    have RK := Lib.hid (RK.out.kept hg)
    have z0 := hg.cell y0 (by simp)
    have z1 := hg.cell y1 (by simp)
    clear hg y0 y1
    cases ok
    · go_wp2_with fail
      refine (same_pieces _ _ _ _ _ _ RN.out.at RW.out.at (by omega)).mono ?_
      rintro e w9 ⟨rfl, hg⟩
      have F9 := Lib.hid (grownBy_trans F8.out hg)
      have RK := Lib.hid (RK.out.kept hg)
      clear hg
      go_wp2_with fail
      refine (ok_impl _ _ _ _ RK.out).mono ?_
      rintro e w10 ⟨rfl, hg⟩
      rw [HKK.out]
      have F10 := Lib.hid (grownBy_trans F9.out hg)
      have RK := Lib.hid (RK.out.kept hg)
      clear hg
      go_wp2_with fail
      refine (ok_spec _ _ _ _ RK.out (by omega)).mono ?_
      rintro e w11 ⟨rfl, hg⟩
      rw [HKK.out]
      have F11 := Lib.hid (grownBy_trans F10.out hg)
      clear hg
      go_wp2_with fail
      go_ret
      exact ⟨rfl, below_new F11.out⟩
    · have HR := Lib.hid (show addR l (p, mm) = withL l (p, mm) by simp [addR, HK.out])
      rw [HR.out] at hRl RN RW ⊢
      have HAG := Lib.hid (add_again HK.out)
      have HAR := Lib.hid (show addR (withL l (p, mm)) (p, mm) = withL l (p, mm) by simp [addR, HAG.out.1, HAG.out.2])
      have h3 := HK.out
      simp only [addOk, Bool.and_eq_true] at h3
      have HP := Lib.hid (And.intro (pcs_of h3.1.1) (And.intro (pcs_of h3.2) h3.2))
      obtain ⟨p0, p1, p2, p3⟩ := pcIn_of h3.1.2
      dsimp only at p0 p1 p2 p3
      have p2' : 1 ≤ mm.length := by omega
      have HB := Lib.hid (show ∀ a, byteL (withL l (p, mm)) a = (byteL l a).or (pcAt (p, mm) a) from (with_good l (p, mm) HP.out.1.good (fun e => by simp only at e; rw [e] at p2'; simp at p2')).2)
      have HP2 := Lib.hid (show ∀ x ∈ l, pc2 x from fun x hx => by obtain ⟨x0, x1, x2, x3⟩ := HP.out.1.2.1 x hx; exact ⟨x0, by omega, by omega⟩)
      have HN2 := Lib.hid (show ∀ x ∈ withL l (p, mm), pc2 x from fun x hx => by obtain ⟨x0, x1, x2, x3⟩ := HP.out.2.1.2.1 x hx; exact ⟨x0, by omega, by omega⟩)
      have HX2 := Lib.hid (show ∀ x ∈ [((p, mm) : Pk)], pc2 x from fun x hx => by rw [List.mem_singleton.mp hx]; exact ⟨p0, by show p ≤ _; omega, by show mm.length ≤ _; omega⟩)
      clear h3
      generalize hnn : withL l (p, mm) = N at *
      have HNN := Lib.hid hnn
      clear hnn
      have W0 := Lib.hid (And.intro z0 z1)
      clear z0 z1
      go_wp2_with fail
      go_loopw [10] (fun a wr => AdlRel w8 a wr) (fun a _ => 60 - (intOf a).toNat)
      case atStart => exact ⟨0, by omega, rfl, World.grownBy.refl _ _⟩
      case round =>
        obtain ⟨A, hA, rfl, hg⟩ := hrel
        have HS := Lib.hid hg
        clear hg
        by_cases hlt : A < 60
        · have hlt' : (A : Int) < 60 := by omega
          have hwA : IntKind.i64.wrap ((A : Int) + 1) = (A : Int) + 1 := IntWalk.i64_in _ (by omega)
          have hbA := HB.out (A : Int)
          have HBA := Lib.hid hbA
          clear hbA
          go_wp2_with fail
          refine (byte_law _ _ _ _ _ (R1.out.at.kept HS.out) (by omega) HP2.out (by omega) (by omega)).mono ?_
          rintro e w9 ⟨rfl, hg⟩
          have HS2 := Lib.hid (grownBy_trans HS.out hg)
          clear hg
          cases hL : byteL l (A : Int) with
          | some y =>
            have hy := y.toNat_lt
            have hy0 : ¬ (y.toNat : Int) < 0 := by omega
            have hy1 : decide ((y.toNat : Int) < 0) = false := decide_eq_false hy0
            have HQ := Lib.hid (show byteL N (A : Int) = some y by rw [HBA.out, hL]; rfl)
            rw [show byteV (some y) = (y.toNat : Int) from rfl]
            go_wp2_with fail
            refine (byte_law _ _ _ _ _ (RN.out.at.kept HS2.out) (by omega) HN2.out (by omega) (by omega)).mono ?_
            rintro e w10 ⟨rfl, hg⟩
            rw [HQ.out, show byteV (some y) = (y.toNat : Int) from rfl]
            have HS3 := Lib.hid (grownBy_trans HS2.out hg)
            clear hg
            go_wp2_with fail
            go_roundw
            case rel => exact ⟨A + 1, hlt, by first | rfl | go_num, HS3.out⟩
            case measure => first | (simp [intOf]; done) | (simp [intOf]; omega)
          | none =>
            rw [show byteV none = -1 from rfl]
            have z0 := HS2.out.cell W0.out.1 (by simp)
            have z1 := HS2.out.cell W0.out.2 (by simp)
            go_wp2_with fail
            have HKX := Lib.hid (pk_one w9 p mm 26 _ rfl)
            refine (byte_law (some ⟨w9.heap.size, 0, none⟩) 1 [(p, mm)] (A : Int) _ HKX.out (by simp) HX2.out (by omega) (by omega)).mono ?_
            rintro e w10 ⟨rfl, hg⟩
            have HS3 := Lib.hid (grownBy_trans (grownBy_trans HS2.out (World.grownBy_alloc _ _ _)) hg)
            clear hg z0 z1
            have HQ := Lib.hid (show byteV (byteL [(p, mm)] (A : Int)) = byteV (byteL N (A : Int)) by rw [HBA.out, hL]; simp [byteL])
            rw [HQ.out]
            go_wp2_with fail
            refine (byte_law _ _ _ _ _ (RN.out.at.kept HS3.out) (by omega) HN2.out (by omega) (by omega)).mono ?_
            rintro e w11 ⟨rfl, hg⟩
            have HS4 := Lib.hid (grownBy_trans HS3.out hg)
            clear hg
            generalize byteV (byteL N (A : Int)) = bv at *
            go_wp2_with fail
            go_roundw
            case rel => exact ⟨A + 1, hlt, by first | rfl | go_num, HS4.out⟩
            case measure => first | (simp [intOf]; done) | (simp [intOf]; omega)
        · obtain rfl : A = 60 := by omega
          have z0 := HS.out.cell W0.out.1 (by simp)
          have z1 := HS.out.cell W0.out.2 (by simp)
          go_wp2_with fail
          refine (add_impl _ _ _ _ _ _ (RN.out.kept HS.out)).mono ?_
          rintro e w12 ⟨v12, rfl, hg, ho⟩
          rw [HAR.out] at ho
          obtain ⟨a12, c12, rfl⟩ := own_slice ho
          rw [HAG.out.2]
          have F12 := Lib.hid (And.intro (grownBy_trans (grownBy_trans F8.out HS.out) hg) (And.intro (RN.out.kept (grownBy_trans HS.out hg)) (row_own ho)))
          clear hg ho z0 z1
          go_wp2_with fail
          refine (ok_impl _ _ _ _ F12.out.2.1.at).mono ?_
          rintro e w13 ⟨rfl, hg⟩
          rw [HP.out.2.2]
          have F13 := Lib.hid (And.intro (grownBy_trans F12.out.1 hg) (And.intro (F12.out.2.1.kept hg) (F12.out.2.2.kept hg)))
          clear hg
          go_wp2_with fail
          refine (same_pieces _ _ _ _ _ _ F13.out.2.2.at F13.out.2.1.at (by omega)).mono ?_
          rintro e w14 ⟨rfl, hg⟩
          have F14 := Lib.hid (grownBy_trans F13.out.1 hg)
          clear hg
          go_wp2_with fail
          go_ret
          exact ⟨rfl, below_new F14.out⟩

set_option maxRecDepth 100000 in
theorem lifted (os : Os) (started : os.Started) (H : Type) (enc : TypeId × Value → H) :
    ReturnsInHanded {} Try.checked os 3 .any (Rows.fnAddedSpec.pre6 enc Try.prog Try.f3 Rows.fnAddedRow.domain false) (Rows.fnAddedSpec.post enc Try.prog Try.f3 false true false false) := by
  refine returnsInHanded_of_change (C := Try.checked) own started (by kernel_rfl) Try.func3
    (ChangeSpec.witness6 (enc := enc) (C := Try.checked) false ⟨#[], #[.slice none 0 0], []⟩ 8 (by kernel_rfl) (by kernel_rfl) (by kernel_rfl) (by kernel_rfl)) ?_
  intro W base args ds gs before hval0 hW hcnd _
  have hval : ∀ (j : Nat) t v, Try.f3.params[j]? = some t → args[j]? = some v → Value.okWide Try.prog W .any base t v := hval0
  have hW' := hW
  obtain ⟨p, q, hA0, hV, rfl, hfz, hnd⟩ := hW
  have hA : DataW.TrodAll enc Try.prog W 0 (fun _ => true) true Try.f3.params.toList args.toList ds p := hA0
  rw [Try.params3] at hA hval
  obtain ⟨v0, vs0, d0, ds0, p0, q0, hargs, rfl, rfl, h0, r0⟩ := trodAll_cons hA
  obtain ⟨rfl, rfl, rfl⟩ := trodAll_nil r0
  obtain rfl : args = #[v0] := by cases args; simp_all
  obtain ⟨rfl, rfl⟩ := trodVars_none hV
  have k0 := h0
  have lt0 : ∀ x ∈ p0, x.block < W.heap.size := by obtain ⟨m, hm⟩ := k0; exact DataW.trod_lt m _ _ _ hm
  obtain ⟨a0, len0, cap0, rfl⟩ := okWide_slice Try.underlying22 (hval 0 22 v0 rfl rfl)
  obtain ⟨z0, w0⟩ : ∃ zs, IsRow .u8 W a0 len0 cap0 zs := by
    obtain ⟨fuel, hf⟩ := h0
    rcases open_ints Try.underlying22 Try.underlying5 (by kernel_rfl) hf with ⟨hcs, _⟩ | ⟨x, l, c, zs, hcs, _, hl, hm, hz, _, hcell, hwz⟩
    · simp [Value.cells] at hcs
      obtain ⟨rfl, rfl, rfl⟩ := hcs
      exact ⟨[], .inl ⟨rfl, rfl, rfl, rfl⟩⟩
    · simp [Value.cells] at hcs
      obtain ⟨rfl, rfl, rfl⟩ := hcs
      exact ⟨zs, .inr ⟨_, rfl, hl, hm, by simpa using hz, hcell, hwz⟩⟩
  clear hA0 hval0
  refine (walk a0 len0 cap0 z0 W w0).mono fun e W' ⟨he, bel⟩ => ?_
  subst he
  exact ⟨_, rfl, _, _, _, [], _, [], hW', trodAll_mk1 (shut_bool Try.underlying4 _), (trodAll_cons_mk (Below.trod laidOut (by kernel_rfl) (of_decide_eq_true (by kernel_rfl)) k0 bel lt0) trodAll_mk0), rfl, bel.frame _, fun h => by cases h⟩

theorem over : Rows.fnAddedRow.holds Try.pinned (OpenSpec.ofChange Rows.fnAddedSpec) :=
  OpenClaim.holds_of_wide 3 Try.f3 rfl rfl rfl rfl rfl rfl rfl ⟨rfl, rfl, rfl, rfl, rfl⟩ rfl rfl rfl rfl rfl (by kernel_rfl) Try.func3 (by kernel_rfl)
    (of_decide_eq_true (by kernel_rfl)) (by unfold Func.isWrapper; first | (rw [if_pos (by decide +kernel)]; kernel_rfl) | (rw [if_neg (by decide +kernel)]; exact ⟨rfl, rfl⟩))
    (fun os started H enc _ => lifted os started H enc)

theorem proved : Rows.FnAddedSaid := over
end Go.Proofs.Ytndefekfgfkmeaa.fnAdded
