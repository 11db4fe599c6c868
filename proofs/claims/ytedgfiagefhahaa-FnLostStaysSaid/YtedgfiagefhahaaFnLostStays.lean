/- For every code the law FnLostStays answers true and leaves its argument as it was; no condition. -/
import Derived.Test.YtedgfiagefhahaaRows
import Derived.Test.YtedgfiagefhahaaDraw
import Derived.Test.YtedgfiagefhahaaBdB
import Derived.Test.YtedgfiagefhahaaBdI
import Derived.Test.YtedgfiagefhahaaBdU
import Derived.WalkKit
import Derived.ProofKit
import Derived.OpenShut
import Derived.ShutString
import Derived.ChangeOld
import Derived.Below
import Derived.Lib.SmallJoins
namespace Go.Proofs.Ytedgfiagefhahaa.fnLostStays
open Go.ChangeShapes Go.WideShapes Go.ChangeAt Go.RowKit Go.Joins
open Go.ChangeMaps (open_string shut_string)
set_option linter.unusedVariables false

theorem own : ownKnob Try.prog.godebug = none := by kernel_rfl
theorem laidOut : laidOutB Try.prog = true := by kernel_rfl


def IsRow (k : IntKind) (w : World) (a : Option Addr) (len cap : Nat) (zs : List Int) : Prop :=
  (a = none ∧ len = 0 ∧ cap = 0 ∧ zs = []) ∨
  ∃ x, a = some x ∧ len ≤ cap ∧ cap ≤ maxLen ∧ zs.length = cap ∧ (∀ i, i < zs.length → w.cell? (x.add i) = some (.int k (zs.getD i 0))) ∧ ∀ n ∈ zs, (Lit.int k n).wf = true

theorem lost_impl_as {u n p m : Int} {a : Option Addr} {c : Nat} {l : List Rg} {x : Bool} (hx : lostL u n l p m = x) (W : World) (h : RgAt W a l) (hl : l.length ≤ 1048576) : Calls Try.prog 27 #[bdV u n a l.length c, .int .i64 p, .int .i64 m] W fun e w' => e = .returned (.bool x) ∧ W.grownBy w' none := by
  have k := lost_impl u n a c l p m W h hl
  rw [hx] at k
  exact k
theorem lost_spec_as {u n p m : Int} {a : Option Addr} {c : Nat} {l : List Rg} {x : Bool} (hx : lostL u n l p m = x) (W : World) (h : RgAt W a l) (hl : l.length ≤ 1048576) : Calls Try.prog 28 #[bdV u n a l.length c, .int .i64 p, .int .i64 m] W fun e w' => e = .returned (.bool x) ∧ W.grownBy w' none := by
  have k := lost_spec u n a c l p m W h hl
  rw [hx] at k
  exact k
theorem sacked_as {u n p : Int} {a : Option Addr} {c : Nat} {l : List Rg} {x : Bool} (hx : inL l p = x) (W : World) (h : RgAt W a l) (hl : l.length ≤ 1048576) : Calls Try.prog 20 #[bdV u n a l.length c, .int .i64 p] W fun e w' => e = .returned (.bool x) ∧ W.grownBy w' none := by
  have k := sacked_any u n a c l p W h hl
  rw [hx] at k
  exact k
theorem rg_two (W : World) (x y z t : Int) : RgAt (W.alloc (.cells #[.int .i64 x, .int .i64 y, .int .i64 z, .int .i64 t] 40)) (some ⟨W.heap.size, 0, none⟩) [(x, y), (z, t)] := by
  have h := Bx.new W 40 #[.int .i64 x, .int .i64 y, .int .i64 z, .int .i64 t]
  refine .inr ⟨_, _, rfl, h.lt, fun i hi => ?_⟩
  have hi2 : i < 2 := by simpa using hi
  match i, hi2 with
  | 0, _ => exact ⟨h.c 0 rfl, h.c 1 rfl⟩
  | 1, _ => exact ⟨h.c 2 rfl, h.c 3 rfl⟩

set_option maxRecDepth 100000 in
set_option maxHeartbeats 4000000 in
theorem walk (a0 : Option Addr) (len0 cap0 : Nat) (z0 : List Int) (w : World) (w0 : IsRow .u8 w a0 len0 cap0 z0) :
    Calls Try.prog 7 #[.slice a0 len0 cap0] w fun e w' => e = .returned (.bool true) ∧ Below w.heap.size w w' := by
  have hc := code_of w0
  clear w0
  have HC := Lib.hid hc
  clear hc
  by_cases hbig : 1048576 < len0
  · go_enter Try.func7, Try.ntmps7
    go_wp2_with (go_at_call 8; refine (big_any _ _ _ _).mono ?_; rintro e w' ⟨rfl, rfl⟩)
    go_ret
    exact ⟨rfl, Below.refl _ _⟩
  · go_enter Try.func7, Try.ntmps7
    go_wp2_with (go_at_call 8; refine (big_any _ _ _ _).mono ?_; rintro e w' ⟨rfl, rfl⟩)
    have H0 := Lib.hid (And.intro HC.out (World.grownBy.refl w none))
    go_wp2_with fail
    refine (draw_blost _ _ _ _ H0.out.1).mono ?_
    rintro e v0 ⟨u, n, ao, co, l, p, m, rfl, hp, hm, hd⟩
    have hg := hd.g
    have hrow := hd.row.at
    have hro := own_rowOk hd.row
    have HL1 := Lib.hid hd.ll
    have HF1 := Lib.hid hd.fi
    clear hp hm hd
    have H1 := Lib.hid (And.intro ((H0.out.1.kept hg).kept (World.grownBy_alloc v0 (.cells #[.int .i64 u, .int .i64 n, .slice ao l.length co] 26) none)) (And.intro (BB.new v0 (u := u) (n := n) (c := co) hrow) (And.intro ((hro).kept (World.grownBy_alloc v0 (.cells #[.int .i64 u, .int .i64 n, .slice ao l.length co] 26) none)) (gA (grownBy_trans (H0.out.2) hg) (.cells #[.int .i64 u, .int .i64 n, .slice ao l.length co] 26)))))
    clear hg hrow hro
    go_upto_region 4 with fail
    generalize v0.heap.size = Bb at *
    generalize v0.alloc (.cells #[.int .i64 u, .int .i64 n, .slice ao l.length co] 26) = v0a at *
    obtain ⟨x, hx⟩ : ∃ x, lostL u n l p m = x := ⟨_, rfl⟩
    have HX := Lib.hid hx
    clear hx
    cases x
    · have bb_0 := H1.out.2.1.bx.c 0 (x := .int .i64 u) rfl
      have bb_1 := H1.out.2.1.bx.c 1 (x := .int .i64 n) rfl
      have bb_2 := H1.out.2.1.bx.c 2 (x := .slice ao l.length co) rfl
      have bb_l := H1.out.2.1.bx.lt
      go_wp2_with fail
      refine (lost_impl_as HX.out _ (H1.out.2.1.rg) (by have := HL1.out; omega)).mono ?_
      rintro e v1 ⟨rfl, hg⟩
      have H2 := Lib.hid (And.intro (H1.out.1.kept hg) (And.intro (H1.out.2.1.keep hg) (And.intro (H1.out.2.2.1.kept hg) (grownBy_trans (H1.out.2.2.2) hg))))
      clear hg
      clear bb_0 bb_1 bb_2 bb_l
      have bb_0 := H2.out.2.1.bx.c 0 (x := .int .i64 u) rfl
      have bb_1 := H2.out.2.1.bx.c 1 (x := .int .i64 n) rfl
      have bb_2 := H2.out.2.1.bx.c 2 (x := .slice ao l.length co) rfl
      have bb_l := H2.out.2.1.bx.lt
      go_wp2_with fail
      refine (lost_spec_as HX.out _ (H2.out.2.1.rg) (by have := HL1.out; omega)).mono ?_
      rintro e v2 ⟨rfl, hg⟩
      have H3 := Lib.hid (And.intro (H2.out.1.kept hg) (And.intro (H2.out.2.1.keep hg) (And.intro (H2.out.2.2.1.kept hg) (grownBy_trans (H2.out.2.2.2) hg))))
      clear hg
      clear bb_0 bb_1 bb_2 bb_l
      have bb_0 := H3.out.2.1.bx.c 0 (x := .int .i64 u) rfl
      have bb_1 := H3.out.2.1.bx.c 1 (x := .int .i64 n) rfl
      have bb_2 := H3.out.2.1.bx.c 2 (x := .slice ao l.length co) rfl
      have bb_l := H3.out.2.1.bx.lt
      go_wp2_with fail
      refine (lost_spec_as HX.out _ (H3.out.2.1.rg) (by have := HL1.out; omega)).mono ?_
      rintro e v3 ⟨rfl, hg⟩
      have H4 := Lib.hid (And.intro (H3.out.1.kept hg) (And.intro (H3.out.2.1.keep hg) (And.intro (H3.out.2.2.1.kept hg) (grownBy_trans (H3.out.2.2.2) hg))))
      clear hg
      clear bb_0 bb_1 bb_2 bb_l
      go_wp2_with fail
      go_ret
      exact ⟨rfl, below_new (H4.out.2.2.2)⟩
    · have bb_0 := H1.out.2.1.bx.c 0 (x := .int .i64 u) rfl
      have bb_1 := H1.out.2.1.bx.c 1 (x := .int .i64 n) rfl
      have bb_2 := H1.out.2.1.bx.c 2 (x := .slice ao l.length co) rfl
      have bb_l := H1.out.2.1.bx.lt
      go_wp2_with fail
      refine (lost_impl_as HX.out _ (H1.out.2.1.rg) (by have := HL1.out; omega)).mono ?_
      rintro e v1 ⟨rfl, hg⟩
      have H2 := Lib.hid (And.intro (H1.out.1.kept hg) (And.intro (H1.out.2.1.keep hg) (And.intro (H1.out.2.2.1.kept hg) (grownBy_trans (H1.out.2.2.2) hg))))
      clear hg
      clear bb_0 bb_1 bb_2 bb_l
      have bb_0 := H2.out.2.1.bx.c 0 (x := .int .i64 u) rfl
      have bb_1 := H2.out.2.1.bx.c 1 (x := .int .i64 n) rfl
      have bb_2 := H2.out.2.1.bx.c 2 (x := .slice ao l.length co) rfl
      have bb_l := H2.out.2.1.bx.lt
      go_wp2_with fail
      refine (lost_spec_as HX.out _ (H2.out.2.1.rg) (by have := HL1.out; omega)).mono ?_
      rintro e v2 ⟨rfl, hg⟩
      have H3 := Lib.hid (And.intro (H2.out.1.kept hg) (And.intro (H2.out.2.1.keep hg) (And.intro (H2.out.2.2.1.kept hg) (grownBy_trans (H2.out.2.2.2) hg))))
      clear hg
      clear bb_0 bb_1 bb_2 bb_l
      obtain ⟨hbp, up, pn, m1, m9, inp, hmany⟩ := lost_of HX.out
      have b1 := hbp.1
      have b2 := hbp.2.1
      have b3 := hbp.2.2.1
      clear hbp inp hmany
      obtain ⟨r, hr⟩ : ∃ r : Int, (len0 : Int) % 4 = r := ⟨_, rfl⟩
      have hr0 : 0 ≤ r := by omega
      have hr3 : r ≤ 3 := by omega
      have htm : (len0 : Int).tmod 4 = r := by rw [Int.tmod_eq_emod_of_nonneg (by omega), hr]
      have s1 : IntKind.i64.wrap (u + 1) = u + 1 := IntWalk.i64_in _ (by omega)
      have s2 : IntKind.i64.wrap (u + 1 + r) = u + 1 + r := IntWalk.i64_in _ (by omega)
      have s3 : IntKind.i64.wrap (n - 1) = n - 1 := IntWalk.i64_in _ (by omega)
      have s4 : IntKind.i64.wrap r = r := IntWalk.i64_in _ (by omega)
      clear hr
      obtain ⟨⟨U, N, L, D⟩, hR⟩ : ∃ R, R = sackL u n l [(u + 1, u + 1 + r), (n - 1, n)] := ⟨_, rfl⟩
      have HR := Lib.hid hR.symm
      clear hR
      have bb_0 := H3.out.2.1.bx.c 0 (x := .int .i64 u) rfl
      have bb_1 := H3.out.2.1.bx.c 1 (x := .int .i64 n) rfl
      have bb_2 := H3.out.2.1.bx.c 2 (x := .slice ao l.length co) rfl
      have bb_l := H3.out.2.1.bx.lt
      go_wp2_with fail
      have hA := World.grownBy_alloc v2 (.cells #[.int .i64 (u + 1), .int .i64 (u + 1 + r), .int .i64 (n - 1), .int .i64 n] 40) none
      have H4 := Lib.hid (And.intro (H3.out.1.kept hA) (And.intro (H3.out.2.1.keep hA) (And.intro (H3.out.2.2.1.kept hA) (grownBy_trans (H3.out.2.2.2) hA))))
      clear hA
      clear bb_0 bb_1 bb_2 bb_l
      have htwo := rg_two v2 (u + 1) (u + 1 + r) (n - 1) n
      refine ((sack_impl u n ao co l _ 2 [(u + 1, u + 1 + r), (n - 1, n)] _ H4.out.2.2.1 htwo (by simp)).mono fun _ _ hh => bd_four HR.out hh).mono ?_
      rintro e v3 ⟨p1, q1, rfl, hg, ho⟩
      have hrow := ho.at
      clear ho htwo
      have H5 := Lib.hid (And.intro ((H4.out.1.kept hg).kept (World.grownBy_alloc v3 (.cells #[.int .i64 U, .int .i64 N, .slice p1 L.length q1] 26) none)) (And.intro ((H4.out.2.1.keep hg).keep (World.grownBy_alloc v3 (.cells #[.int .i64 U, .int .i64 N, .slice p1 L.length q1] 26) none)) (And.intro ((H4.out.2.2.1.kept hg).kept (World.grownBy_alloc v3 (.cells #[.int .i64 U, .int .i64 N, .slice p1 L.length q1] 26) none)) (And.intro (BB.new v3 (u := U) (n := N) (c := q1) hrow) (gA (grownBy_trans (H4.out.2.2.2) hg) (.cells #[.int .i64 U, .int .i64 N, .slice p1 L.length q1] 26))))))
      clear hg hrow
      go_upto_region 8 with fail
      generalize v3.heap.size = Bn at *
      generalize v3.alloc (.cells #[.int .i64 U, .int .i64 N, .slice p1 L.length q1] 26) = v3a at *
      cases D
      · have bn_0 := H5.out.2.2.2.1.bx.c 0 (x := .int .i64 U) rfl
        have bn_1 := H5.out.2.2.2.1.bx.c 1 (x := .int .i64 N) rfl
        have bn_2 := H5.out.2.2.2.1.bx.c 2 (x := .slice p1 L.length q1) rfl
        have bn_l := H5.out.2.2.2.1.bx.lt
        go_wp2_with fail
        go_ret
        exact ⟨rfl, below_new (H5.out.2.2.2.2)⟩
      · have hst := lost_stays HX.out HR.out
        have hln : L.length ≤ 1048576 := by have := (sack_facts HR.out).2.2.1.2.2.2.1; omega
        have HLN := Lib.hid hln
        clear hln
        obtain ⟨y, hy⟩ : ∃ y, lostL U N L p m = y := ⟨_, rfl⟩
        obtain ⟨z, hz⟩ : ∃ z, inL L p = z := ⟨_, rfl⟩
        have hyz : z = false → y = true := fun h => by rw [← hy]; exact hst (by rw [hz]; exact h)
        have HY := Lib.hid hy
        have HZ := Lib.hid hz
        have HYZ := Lib.hid hyz
        clear hy hz hst hyz
        have bn_0 := H5.out.2.2.2.1.bx.c 0 (x := .int .i64 U) rfl
        have bn_1 := H5.out.2.2.2.1.bx.c 1 (x := .int .i64 N) rfl
        have bn_2 := H5.out.2.2.2.1.bx.c 2 (x := .slice p1 L.length q1) rfl
        have bn_l := H5.out.2.2.2.1.bx.lt
        go_wp2_with fail
        refine (lost_impl_as HY.out _ (H5.out.2.2.2.1.rg) HLN.out).mono ?_
        rintro e v4 ⟨rfl, hg⟩
        have H6 := Lib.hid (And.intro (H5.out.1.kept hg) (And.intro (H5.out.2.1.keep hg) (And.intro (H5.out.2.2.1.kept hg) (And.intro (H5.out.2.2.2.1.keep hg) (grownBy_trans (H5.out.2.2.2.2) hg)))))
        clear hg
        clear bn_0 bn_1 bn_2 bn_l
        cases y
        · have HZT := Lib.hid (show inL L p = true by rw [HZ.out]; cases z; exact absurd (HYZ.out rfl) (by simp); rfl)
          have bn_0 := H6.out.2.2.2.1.bx.c 0 (x := .int .i64 U) rfl
          have bn_1 := H6.out.2.2.2.1.bx.c 1 (x := .int .i64 N) rfl
          have bn_2 := H6.out.2.2.2.1.bx.c 2 (x := .slice p1 L.length q1) rfl
          have bn_l := H6.out.2.2.2.1.bx.lt
          go_wp2_with fail
          refine (sacked_as HZT.out _ (H6.out.2.2.2.1.rg) HLN.out).mono ?_
          rintro e v5 ⟨rfl, hg⟩
          have H7 := Lib.hid (And.intro (H6.out.1.kept hg) (And.intro (H6.out.2.1.keep hg) (And.intro (H6.out.2.2.1.kept hg) (And.intro (H6.out.2.2.2.1.keep hg) (grownBy_trans (H6.out.2.2.2.2) hg)))))
          clear hg
          clear bn_0 bn_1 bn_2 bn_l
          go_wp2_with fail
          go_ret
          exact ⟨rfl, below_new (H7.out.2.2.2.2)⟩
        · go_wp2_with fail
          go_ret
          exact ⟨rfl, below_new (H6.out.2.2.2.2)⟩

set_option maxRecDepth 100000 in
theorem lifted (os : Os) (started : os.Started) (H : Type) (enc : TypeId × Value → H) :
    ReturnsInHanded {} Try.checked os 7 .any (Rows.fnLostStaysSpec.pre6 enc Try.prog Try.f7 Rows.fnLostStaysRow.domain false) (Rows.fnLostStaysSpec.post enc Try.prog Try.f7 false true false false) := by
  refine returnsInHanded_of_change (C := Try.checked) own started (by kernel_rfl) Try.func7
    (ChangeSpec.witness6 (enc := enc) (C := Try.checked) false ⟨#[], #[.slice none 0 0], []⟩ 8 (by kernel_rfl) (by kernel_rfl) (by kernel_rfl) (by kernel_rfl)) ?_
  intro W base args ds gs before hval0 hW hcnd _
  have hval : ∀ (j : Nat) t v, Try.f7.params[j]? = some t → args[j]? = some v → Value.okWide Try.prog W .any base t v := hval0
  have hW' := hW
  obtain ⟨p, q, hA0, hV, rfl, hfz, hnd⟩ := hW
  have hA : DataW.TrodAll enc Try.prog W 0 (fun _ => true) true Try.f7.params.toList args.toList ds p := hA0
  rw [Try.params7] at hA hval
  obtain ⟨v0, vs0, d0, ds0, p0, q0, hargs, rfl, rfl, h0, r0⟩ := trodAll_cons hA
  obtain ⟨rfl, rfl, rfl⟩ := trodAll_nil r0
  obtain rfl : args = #[v0] := by cases args; simp_all
  obtain ⟨rfl, rfl⟩ := trodVars_none hV
  have k0 := h0
  have lt0 : ∀ x ∈ p0, x.block < W.heap.size := by obtain ⟨m, hm⟩ := k0; exact DataW.trod_lt m _ _ _ hm
  obtain ⟨a0, len0, cap0, rfl⟩ := okWide_slice Try.underlying22 (hval 0 22 v0 rfl rfl)
  obtain ⟨z0, w0⟩ : ∃ zs, IsRow .u8 W a0 len0 cap0 zs := by
    obtain ⟨fuel, hf⟩ := h0
    rcases open_ints Try.underlying22 Try.underlying5 (by kernel_rfl) hf with ⟨hcs, _⟩ | ⟨x, l, c, zs, hcs, _, hl, hm, hz, _, hcell, hwz⟩
    · simp [Value.cells] at hcs
      obtain ⟨rfl, rfl, rfl⟩ := hcs
      exact ⟨[], .inl ⟨rfl, rfl, rfl, rfl⟩⟩
    · simp [Value.cells] at hcs
      obtain ⟨rfl, rfl, rfl⟩ := hcs
      exact ⟨zs, .inr ⟨_, rfl, hl, hm, by simpa using hz, hcell, hwz⟩⟩
  clear hA0 hval0
  refine (walk a0 len0 cap0 z0 W w0).mono fun e W' ⟨he, bel⟩ => ?_
  subst he
  exact ⟨_, rfl, _, _, _, [], _, [], hW', trodAll_mk1 (shut_bool Try.underlying4 _), (trodAll_cons_mk (Below.trod laidOut (by kernel_rfl) (of_decide_eq_true (by kernel_rfl)) k0 bel lt0) trodAll_mk0), rfl, bel.frame _, fun h => by cases h⟩

theorem over : Rows.fnLostStaysRow.holds Try.pinned (OpenSpec.ofChange Rows.fnLostStaysSpec) :=
  OpenClaim.holds_of_wide 7 Try.f7 rfl rfl rfl rfl rfl rfl rfl ⟨rfl, rfl, rfl, rfl, rfl⟩ rfl rfl rfl rfl rfl (by kernel_rfl) Try.func7 (by kernel_rfl)
    (of_decide_eq_true (by kernel_rfl)) (by unfold Func.isWrapper; first | (rw [if_pos (by decide +kernel)]; kernel_rfl) | (rw [if_neg (by decide +kernel)]; exact ⟨rfl, rfl⟩))
    (fun os started H enc _ => lifted os started H enc)

theorem proved : Rows.FnLostStaysSaid := over
end Go.Proofs.Ytedgfiagefhahaa.fnLostStays
