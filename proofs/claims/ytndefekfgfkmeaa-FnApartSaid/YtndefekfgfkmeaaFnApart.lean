/- For every drawn row of pieces the law FnApart answers true; no condition. -/
import Derived.Test.YtndefekfgfkmeaaRows
import Derived.Test.YtndefekfgfkmeaaDraw
import Derived.Test.YtndefekfgfkmeaaDrawB
import Derived.Test.YtndefekfgfkmeaaPcApt
import Derived.WalkKit
import Derived.ProofKit
import Derived.OpenShut
import Derived.ShutString
import Derived.ChangeOld
import Derived.Below
import Derived.Lib.SmallJoins
namespace Go.Proofs.Ytndefekfgfkmeaa.fnApart
open Go.ChangeShapes Go.WideShapes Go.ChangeAt Go.RowKit Go.Joins
open Go.ChangeMaps (open_string shut_string)
set_option linter.unusedVariables false

theorem own : ownKnob Try.prog.godebug = none := by kernel_rfl
theorem laidOut : laidOutB Try.prog = true := by kernel_rfl


def IsRow (k : IntKind) (w : World) (a : Option Addr) (len cap : Nat) (zs : List Int) : Prop :=
  (a = none ∧ len = 0 ∧ cap = 0 ∧ zs = []) ∨
  ∃ x, a = some x ∧ len ≤ cap ∧ cap ≤ maxLen ∧ zs.length = cap ∧ (∀ i, i < zs.length → w.cell? (x.add i) = some (.int k (zs.getD i 0))) ∧ ∀ n ∈ zs, (Lit.int k n).wf = true

theorem dummy : True := trivial

set_option maxRecDepth 100000 in
set_option maxHeartbeats 8000000 in
theorem walk (a0 : Option Addr) (len0 cap0 : Nat) (z0 : List Int) (w : World) (w0 : IsRow .u8 w a0 len0 cap0 z0) :
    Calls Try.prog 6 #[.slice a0 len0 cap0] w fun e w' => e = .returned (.bool true) ∧ Below w.heap.size w w' := by
  have hc := code_of w0
  have hbig0 : len0 ≤ maxLen := hc.1
  clear w0
  have HC := Lib.hid hc
  clear hc
  by_cases hbig : 1048576 < len0
  · go_enter Try.func6, Try.ntmps6
    go_wp2_with (go_at_call 13; refine (big_any _ _ _ _).mono ?_; rintro e w' ⟨rfl, rfl⟩)
    go_ret
    exact ⟨rfl, Below.refl _ _⟩
  · go_enter Try.func6, Try.ntmps6
    go_wp2_with (go_at_call 13; refine (big_any _ _ _ _).mono ?_; rintro e w' ⟨rfl, rfl⟩)
    refine (draw_added _ _ _ _ HC.out).mono ?_
    rintro e w1 ⟨l, v, p, mm, hl, hnp, rfl, hg, ho⟩
    have hl4 := hl.1
    obtain ⟨a1, c1, rfl⟩ := own_slice ho
    have HL := Lib.hid (And.intro hl hnp)
    have F1 := Lib.hid (grownBy_trans hg (World.grownBy_alloc w1 (.cells #[.int .i64 p, .string ⟨mm.toArray⟩] 26) none))
    have R1 := Lib.hid ((row_own ho).kept (World.grownBy_alloc w1 (.cells #[.int .i64 p, .string ⟨mm.toArray⟩] 26) none))
    have T1 := two_new w1 (.int .i64 p) (.string ⟨mm.toArray⟩) 26
    have hE : w.heap.size ≤ w1.heap.size := hg.size
    clear hg ho hl hnp
    go_wp2_with fail
    generalize w1.alloc (.cells #[.int .i64 p, .string ⟨mm.toArray⟩] 26) = w2 at *
    generalize w1.heap.size = E at *
    obtain ⟨z0, z1, _, _⟩ := T1
    obtain ⟨ok, hK⟩ : ∃ ok, addOk l (p, mm) = ok := ⟨_, rfl⟩
    have HK := Lib.hid hK
    clear hK
    refine (add_impl _ _ _ _ _ _ R1.out).mono ?_
    rintro e w3 ⟨v3, rfl, hg, ho⟩
    obtain ⟨a3, c3, rfl⟩ := own_slice ho
    rw [HK.out]
    have F3 := Lib.hid (grownBy_trans F1.out hg)
    have R1 := Lib.hid (R1.out.kept hg)
    have RN := Lib.hid (row_own ho)
    have y0 := hg.cell z0 (by simp)
    have y1 := hg.cell z1 (by simp)
    clear hg ho z0 z1
    go_wp2_with fail
    refine (add_spec _ _ _ _ _ _ R1.out.at (by omega)).mono ?_
    rintro e w4 ⟨v4, rfl, hg, ho⟩
    obtain ⟨a4, c4, rfl⟩ := own_slice ho
    rw [HK.out]
    have F4 := Lib.hid (grownBy_trans F3.out hg)
    have R1 := Lib.hid (R1.out.kept hg)
    have RN := Lib.hid (RN.out.kept hg)
    have RW := Lib.hid (row_own ho)
    have z0 := hg.cell y0 (by simp)
    have z1 := hg.cell y1 (by simp)
    clear hg ho y0 y1
    have hRl := addR_len l (p, mm)
    cases ok
    · go_wp2_with fail
      go_ret
      exact ⟨rfl, below_new F4.out⟩
    · have HR := Lib.hid (show addR l (p, mm) = withL l (p, mm) by simp [addR, HK.out])
      rw [HR.out] at hRl RN RW ⊢
      have HP := Lib.hid (pcs_of (by have := HK.out; simp only [addOk, Bool.and_eq_true] at this; exact this.1.1))
      have HS := Lib.hid (add_small HK.out HL.out.2 HL.out.1.2.2)
      have hpx := pcIn_of (by have := HK.out; simp only [addOk, Bool.and_eq_true] at this; exact this.1.2 : pcIn 5000 300 (p, mm) = true)
      obtain ⟨p0, p1, p2, p3⟩ := hpx
      dsimp only at p0 p1 p2 p3
      obtain ⟨⟨_, hnear⟩, hm1, hm2⟩ := HL.out.2
      dsimp only at hnear hm1 hm2
      have hp31 : p ≤ 31 := by rcases hnear with h | h | h <;> omega
      have hmod : (0 : Int) ≤ (len0 : Int) % 3 ∧ (len0 : Int) % 3 ≤ 2 := by omega
      have htm : (len0 : Int).tmod 3 = (len0 : Int) % 3 := Int.tmod_eq_emod_of_nonneg (by omega)
      obtain ⟨d, hd⟩ : ∃ d, (len0 : Int) % 3 = d := ⟨_, rfl⟩
      rw [hd] at hmod htm
      have hw1 : IntKind.i64.wrap (p + (mm.length : Int)) = p + mm.length := IntWalk.i64_in _ (by omega)
      have hw2 : IntKind.i64.wrap (p + (mm.length : Int) + d) = p + mm.length + d := IntWalk.i64_in _ (by omega)
      have hw3 : IntKind.i64.wrap d = d := IntWalk.i64_in _ (by omega)
      obtain ⟨t, ht⟩ : ∃ t, p + (mm.length : Int) + d = t := ⟨_, rfl⟩
      have ht0 : p + (mm.length : Int) ≤ t := by omega
      have hw4 : wrap64 (p + (mm.length : Int) + d) = t := by rw [IntWalk.wrap64_in _ ⟨by omega, by omega⟩]; exact ht
      have ht1 : t ≤ 41 := by omega
      obtain ⟨lat, hlat, hlen⟩ : ∃ lat : List UInt8, lat = [108, 97, 116, 101, 114] ∧ lat.length = 5 := ⟨_, rfl, rfl⟩
      have hwl := with_len l (p, mm)
      have HE1 : ∀ y ∈ l, y.1 + (y.2.length : Int) ≤ 60 := fun y hy => by have := HL.out.1.2.2 y hy; omega
      have HE2 : ∀ y ∈ withL l (p, mm), y.1 + (y.2.length : Int) ≤ 60 := fun y hy => by have := HS.out.2 y hy; omega
      have O1 := add_ok_small (x := (t, lat)) HS.out.1 HE2 (by omega) (by show 0 ≤ t; omega) (by show t + (lat.length : Int) ≤ 60; omega) (by show 1 ≤ lat.length; omega)
      have O2 := add_ok_small (x := (t, lat)) HP.out HE1 (by omega) (by show 0 ≤ t; omega) (by show t + (lat.length : Int) ≤ 60; omega) (by show 1 ≤ lat.length; omega)
      have hwl2 := with_len l (t, lat)
      have O3 := add_ok_small (x := (p, mm)) O2.2.1 O2.2.2 (by omega) p0 (by show p + (mm.length : Int) ≤ 60; omega) (by show 1 ≤ mm.length; omega)
      have HSW := Lib.hid (add_swap (l := l) (x := (p, mm)) (y := (t, lat)) HP.out.good (fun e => by simp only at e; rw [e] at hm1; simp at hm1) (fun e => by simp only at e; rw [e] at hlen; simp at hlen) ht0)
      have HO := Lib.hid (And.intro O1.1 (And.intro O2.1 O3.1))
      have HAR := Lib.hid (show addR (withL l (p, mm)) (t, lat) = withL (withL l (p, mm)) (t, lat) ∧ addR l (t, lat) = withL l (t, lat) ∧ addR (withL l (t, lat)) (p, mm) = withL (withL l (p, mm)) (t, lat) from ⟨by simp [addR, O1.1], by simp [addR, O2.1], by simp [addR, O3.1, HSW.out]⟩)
      have hfin : (withL (withL l (p, mm)) (t, lat)).length ≤ 1048576 := by have := with_len (withL l (p, mm)) (t, lat); omega
      have HLT := Lib.hid hlat
      rw [ht] at hw2
      clear O1 O2 O3 HE1 HE2 hwl hwl2 hnear hd ht hlat hmod
      have hls : ({ data := #[108, 97, 116, 101, 114] } : ByteArray) = ⟨lat.toArray⟩ := by rw [HLT.out]
      have T2 := two_new w4 (.int .i64 t) (.string ⟨lat.toArray⟩) 26
      have A2 := World.grownBy_alloc w4 (.cells #[.int .i64 t, .string ⟨lat.toArray⟩] 26) none
      have F5 := Lib.hid (grownBy_trans F4.out A2)
      have R1 := Lib.hid (R1.out.kept A2)
      have RN := Lib.hid (RN.out.kept A2)
      have y0 := A2.cell z0 (by simp)
      have y1 := A2.cell z1 (by simp)
      clear A2 hw2
      go_wp2_with fail
      try rw [hw4]
      try rw [hls]
      clear z0 z1 hw4 hls
      generalize w4.alloc (.cells #[.int .i64 t, .string ⟨lat.toArray⟩] 26) = w5 at *
      generalize w4.heap.size = E2 at *
      obtain ⟨u0, u1, _, _⟩ := T2
      refine (add_impl _ _ _ _ _ _ RN.out).mono ?_
      rintro e w6 ⟨v6, rfl, hg, ho⟩
      rw [HAR.out.1] at ho
      obtain ⟨a6, c6, rfl⟩ := own_slice ho
      rw [HO.out.1]
      have F6 := Lib.hid (grownBy_trans F5.out hg)
      have R1 := Lib.hid (R1.out.kept hg)
      have RA := Lib.hid (row_own ho)
      have z0 := hg.cell y0 (by simp)
      have z1 := hg.cell y1 (by simp)
      have x0 := hg.cell u0 (by simp)
      have x1 := hg.cell u1 (by simp)
      clear hg ho y0 y1 u0 u1
      go_wp2_with fail
      refine (add_impl _ _ _ _ _ _ R1.out).mono ?_
      rintro e w7 ⟨v7, rfl, hg, ho⟩
      rw [HAR.out.2.1] at ho
      obtain ⟨a7, c7, rfl⟩ := own_slice ho
      rw [HO.out.2.1]
      have F7 := Lib.hid (grownBy_trans F6.out hg)
      have RA := Lib.hid (RA.out.kept hg)
      have RM := Lib.hid (row_own ho)
      have y0 := hg.cell z0 (by simp)
      have y1 := hg.cell z1 (by simp)
      clear hg ho z0 z1 x0 x1
      go_wp2_with fail
      refine (add_impl _ _ _ _ _ _ RM.out).mono ?_
      rintro e w8 ⟨v8, rfl, hg, ho⟩
      rw [HAR.out.2.2] at ho
      obtain ⟨a8, c8, rfl⟩ := own_slice ho
      rw [HO.out.2.2]
      have F8 := Lib.hid (grownBy_trans F7.out hg)
      have RA := Lib.hid (RA.out.kept hg)
      have RB := Lib.hid (row_own ho)
      clear hg ho y0 y1
      go_wp2_with fail
      refine (same_pieces _ _ _ _ _ _ RA.out.at RB.out.at hfin).mono ?_
      rintro e w9 ⟨rfl, hg⟩
      have F9 := Lib.hid (grownBy_trans F8.out hg)
      clear hg
      go_wp2_with fail
      go_ret
      exact ⟨rfl, below_new F9.out⟩

set_option maxRecDepth 100000 in
theorem lifted (os : Os) (started : os.Started) (H : Type) (enc : TypeId × Value → H) :
    ReturnsInHanded {} Try.checked os 6 .any (Rows.fnApartSpec.pre6 enc Try.prog Try.f6 Rows.fnApartRow.domain false) (Rows.fnApartSpec.post enc Try.prog Try.f6 false true false false) := by
  refine returnsInHanded_of_change (C := Try.checked) own started (by kernel_rfl) Try.func6
    (ChangeSpec.witness6 (enc := enc) (C := Try.checked) false ⟨#[], #[.slice none 0 0], []⟩ 8 (by kernel_rfl) (by kernel_rfl) (by kernel_rfl) (by kernel_rfl)) ?_
  intro W base args ds gs before hval0 hW hcnd _
  have hval : ∀ (j : Nat) t v, Try.f6.params[j]? = some t → args[j]? = some v → Value.okWide Try.prog W .any base t v := hval0
  have hW' := hW
  obtain ⟨p, q, hA0, hV, rfl, hfz, hnd⟩ := hW
  have hA : DataW.TrodAll enc Try.prog W 0 (fun _ => true) true Try.f6.params.toList args.toList ds p := hA0
  rw [Try.params6] at hA hval
  obtain ⟨v0, vs0, d0, ds0, p0, q0, hargs, rfl, rfl, h0, r0⟩ := trodAll_cons hA
  obtain ⟨rfl, rfl, rfl⟩ := trodAll_nil r0
  obtain rfl : args = #[v0] := by cases args; simp_all
  obtain ⟨rfl, rfl⟩ := trodVars_none hV
  have k0 := h0
  have lt0 : ∀ x ∈ p0, x.block < W.heap.size := by obtain ⟨m, hm⟩ := k0; exact DataW.trod_lt m _ _ _ hm
  obtain ⟨a0, len0, cap0, rfl⟩ := okWide_slice Try.underlying22 (hval 0 22 v0 rfl rfl)
  obtain ⟨z0, w0⟩ : ∃ zs, IsRow .u8 W a0 len0 cap0 zs := by
    obtain ⟨fuel, hf⟩ := h0
    rcases open_ints Try.underlying22 Try.underlying5 (by kernel_rfl) hf with ⟨hcs, _⟩ | ⟨x, l, c, zs, hcs, _, hl, hm, hz, _, hcell, hwz⟩
    · simp [Value.cells] at hcs
      obtain ⟨rfl, rfl, rfl⟩ := hcs
      exact ⟨[], .inl ⟨rfl, rfl, rfl, rfl⟩⟩
    · simp [Value.cells] at hcs
      obtain ⟨rfl, rfl, rfl⟩ := hcs
      exact ⟨zs, .inr ⟨_, rfl, hl, hm, by simpa using hz, hcell, hwz⟩⟩
  clear hA0 hval0
  refine (walk a0 len0 cap0 z0 W w0).mono fun e W' ⟨he, bel⟩ => ?_
  subst he
  exact ⟨_, rfl, _, _, _, [], _, [], hW', trodAll_mk1 (shut_bool Try.underlying4 _), (trodAll_cons_mk (Below.trod laidOut (by kernel_rfl) (of_decide_eq_true (by kernel_rfl)) k0 bel lt0) trodAll_mk0), rfl, bel.frame _, fun h => by cases h⟩

theorem over : Rows.fnApartRow.holds Try.pinned (OpenSpec.ofChange Rows.fnApartSpec) :=
  OpenClaim.holds_of_wide 6 Try.f6 rfl rfl rfl rfl rfl rfl rfl ⟨rfl, rfl, rfl, rfl, rfl⟩ rfl rfl rfl rfl rfl (by kernel_rfl) Try.func6 (by kernel_rfl)
    (of_decide_eq_true (by kernel_rfl)) (by unfold Func.isWrapper; first | (rw [if_pos (by decide +kernel)]; kernel_rfl) | (rw [if_neg (by decide +kernel)]; exact ⟨rfl, rfl⟩))
    (fun os started H enc _ => lifted os started H enc)

theorem proved : Rows.FnApartSaid := over
end Go.Proofs.Ytndefekfgfkmeaa.fnApart
