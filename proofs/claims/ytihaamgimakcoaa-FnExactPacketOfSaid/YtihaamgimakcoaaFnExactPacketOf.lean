/- For every time, every two addresses and every segment the law FnExactPacketOf answers true and leaves its arguments as they were; no condition. -/
import Derived.Test.YtihaamgimakcoaaRows
import Derived.Test.YtihaamgimakcoaaDraw
import Derived.Test.YtihaamgimakcoaaDrawB
import Derived.Test.YtihaamgimakcoaaOct
import Derived.Test.YtihaamgimakcoaaPk7
import Derived.Test.YtihaamgimakcoaaAgg
import Derived.WalkKit
import Derived.ProofKit
import Derived.OpenShut
import Derived.ShutString
import Derived.ChangeOld
import Derived.Below
import Derived.Lib.SmallJoins
import Derived.Deep.SlicePairs
namespace Go.Proofs.Ytihaamgimakcoaa.fnExactPacketOf
open Go.ChangeShapes Go.WideShapes Go.ChangeAt Go.RowKit Go.Joins
open Go.ChangeMaps (open_string shut_string)
set_option linter.unusedVariables false

theorem own : ownKnob Try.prog.godebug = none := by kernel_rfl
theorem laidOut : laidOutB Try.prog = true := by kernel_rfl
theorem cells26 : Try.prog.cellsOf 26 = 8 := by kernel_rfl
theorem cells84 : Try.prog.cellsOf 84 = 2 := by kernel_rfl

theorem pk_form (tm a b f o s k g n : Int) (l : List Rg) (d : List UInt8) : ∃ (X0 : Int) (X1 : List UInt8) (Z : Bool), pkV tm a b f o s k g n l d = .tuple #[.agg #[.int .i64 X0, .string ⟨X1.toArray⟩], .bool Z] := by
  unfold pkV
  split
  · exact ⟨_, _, _, rfl⟩
  · exact ⟨0, [], false, rfl⟩
set_option maxRecDepth 100000 in
theorem eq_pk (t : Int) (d : List UInt8) (w : World) : Calls Try.prog 16 #[.agg #[.int .i64 t, .string ⟨d.toArray⟩], .agg #[.int .i64 t, .string ⟨d.toArray⟩]] w fun e w' => e = .returned (.bool true) ∧ w.grownBy w' none := by
  go_enter Try.func16, Try.ntmps16
  go_wp2
  go_ret
  exact ⟨rfl, grownBy_trans (World.grownBy_alloc _ _ _) (World.grownBy_alloc _ _ _)⟩

set_option maxRecDepth 100000 in
set_option maxHeartbeats 4000000 in
theorem walk (a0 : Int) (a1 : Int) (a2 : Int) (a3_0 : Int) (a3_1 : Int) (a3_2 : Int) (a3_3 : Int) (a3_4 : Int) (a3_5 : Int) (a3_6 : Option Addr) (cap3_6 : Nat) (l3_6 : List Rg) (a3_7 : ByteArray) (w : World) (w0 : (Lit.int .i64 a0).wf = true) (w1 : (Lit.int .i64 a1).wf = true) (w2 : (Lit.int .i64 a2).wf = true) (w3_0 : (Lit.int .i64 a3_0).wf = true) (w3_1 : (Lit.int .i64 a3_1).wf = true) (w3_2 : (Lit.int .i64 a3_2).wf = true) (w3_3 : (Lit.int .i64 a3_3).wf = true) (w3_4 : (Lit.int .i64 a3_4).wf = true) (w3_5 : (Lit.int .i64 a3_5).wf = true) (w3_6 : RgAt w a3_6 l3_6) (n3_6 : l3_6.length ≤ maxLen) (w3_7 : a3_7.size ≤ maxLen) :
    Calls Try.prog 4 #[.int .i64 a0, .int .i64 a1, .int .i64 a2, .agg #[.int .i64 a3_0, .int .i64 a3_1, .int .i64 a3_2, .int .i64 a3_3, .int .i64 a3_4, .int .i64 a3_5, .slice a3_6 l3_6.length cap3_6, .string a3_7]] w fun e w' => e = .returned (.bool true) ∧ Below w.heap.size w w' := by
  obtain ⟨yb, rfl⟩ : ∃ l : List UInt8, a3_7 = ⟨l.toArray⟩ := ⟨a3_7.data.toList, ba_of rfl⟩
  rw [str_size] at w3_7
  have hl0 := n3_6
  obtain ⟨X0, X1, Z, hv⟩ := pk_form a0 a1 a2 a3_0 a3_1 a3_2 a3_3 a3_4 a3_5 l3_6 yb
  have hi := fun (p : Option Addr) (c : Nat) (W : World) hh => pk_impl a0 a1 a2 a3_0 a3_1 a3_2 a3_3 a3_4 a3_5 p c l3_6 yb W hh
  have hs := fun (p : Option Addr) (c : Nat) (W : World) hh => pk_spec a0 a1 a2 a3_0 a3_1 a3_2 a3_3 a3_4 a3_5 p c l3_6 yb W hh n3_6
  simp only [hv] at hi hs
  have HI := Lib.hid hi
  have HS := Lib.hid hs
  clear hi hs hv
  unfold maxLen at w3_7 hl0
  have HL := Lib.hid (And.intro w3_7 (And.intro hl0 w3_6))
  clear w0 w1 w2 w3_0 w3_1 w3_2 w3_3 w3_4 w3_5 w3_6 w3_7 hl0 n3_6
  have H0 := Lib.hid (And.intro (Bx.new w 26 #[.int .i64 a3_0, .int .i64 a3_1, .int .i64 a3_2, .int .i64 a3_3, .int .i64 a3_4, .int .i64 a3_5, .slice a3_6 l3_6.length cap3_6, .string ⟨yb.toArray⟩]) (World.grownBy_alloc w (.cells #[.int .i64 a3_0, .int .i64 a3_1, .int .i64 a3_2, .int .i64 a3_3, .int .i64 a3_4, .int .i64 a3_5, .slice a3_6 l3_6.length cap3_6, .string ⟨yb.toArray⟩] 26) none))
  go_enter Try.func4, Try.ntmps4
  go_wp2_with fail
  refine (sz_tcpK a3_0 a3_1 a3_2 a3_3 a3_4 a3_5 a3_6 cap3_6 l3_6 yb 1048576 _ (by have := HL.out; omega) (by have := HL.out; omega) (by omega) (by omega)).mono ?_
  rintro e w1 ⟨⟨r, rfl, hr⟩, hg⟩
  have H1 := Lib.hid (And.intro (H0.out.1.keep hg) (grownBy_trans H0.out.2 hg))
  clear hg
  by_cases hr0 : r < 0
  · go_wp2_with fail
    go_ret
    exact ⟨rfl, below_new H1.out.2⟩
  · have hls := hr (by omega)
    have HRG := Lib.hid (fun (W : World) (hg : w.grownBy W none) => HL.out.2.2.kept hg)
    clear hr
    have e0 := H1.out.1.c 0 (x := .int .i64 a3_0) rfl
    have e1 := H1.out.1.c 1 (x := .int .i64 a3_1) rfl
    have e2 := H1.out.1.c 2 (x := .int .i64 a3_2) rfl
    have e3 := H1.out.1.c 3 (x := .int .i64 a3_3) rfl
    have e4 := H1.out.1.c 4 (x := .int .i64 a3_4) rfl
    have e5 := H1.out.1.c 5 (x := .int .i64 a3_5) rfl
    have e6 := H1.out.1.c 6 (x := .slice a3_6 l3_6.length cap3_6) rfl
    have e7 := H1.out.1.c 7 (x := .string ⟨yb.toArray⟩) rfl
    have le := H1.out.1.lt
    go_wp2_with fail
    refine (to_tcp a3_0 a3_1 a3_2 a3_3 a3_4 a3_5 a3_6 cap3_6 l3_6 yb _ (HRG.out _ H1.out.2) hls).mono ?_
    rintro e w2 ⟨q1, rfl, hg, hq⟩
    have H2 := Lib.hid (And.intro (H1.out.1.keep hg) (And.intro (grownBy_trans H1.out.2 hg) hq))
    clear hg hq le
    clear e0 e1 e2 e3 e4 e5 e6 e7
    go_wp2_with fail
    refine (HS.out _ _ _ H2.out.2.2).mono ?_
    rintro e w3 ⟨rfl, hg⟩
    have H3 := Lib.hid (And.intro ((H2.out.1.keep hg).alloc (.cells #[.int .i64 X0, .string ⟨(X1 : List UInt8).toArray⟩] 42)) (And.intro (Bx.new w3 42 #[.int .i64 X0, .string ⟨(X1 : List UInt8).toArray⟩]) (gA (grownBy_trans H2.out.2.1 hg) (.cells #[.int .i64 X0, .string ⟨(X1 : List UInt8).toArray⟩] 42))))
    clear hg
    have e0 := H3.out.1.c 0 (x := .int .i64 a3_0) rfl
    have e1 := H3.out.1.c 1 (x := .int .i64 a3_1) rfl
    have e2 := H3.out.1.c 2 (x := .int .i64 a3_2) rfl
    have e3 := H3.out.1.c 3 (x := .int .i64 a3_3) rfl
    have e4 := H3.out.1.c 4 (x := .int .i64 a3_4) rfl
    have e5 := H3.out.1.c 5 (x := .int .i64 a3_5) rfl
    have e6 := H3.out.1.c 6 (x := .slice a3_6 l3_6.length cap3_6) rfl
    have e7 := H3.out.1.c 7 (x := .string ⟨yb.toArray⟩) rfl
    have le := H3.out.1.lt
    go_upto_region 6 with fail
    generalize w3.heap.size = K at *
    generalize w3.alloc (.cells #[.int .i64 X0, .string ⟨(X1 : List UInt8).toArray⟩] 42) = w4 at *
    go_wp2_with fail
    refine (to_tcp a3_0 a3_1 a3_2 a3_3 a3_4 a3_5 a3_6 cap3_6 l3_6 yb _ (HRG.out _ H3.out.2.2) hls).mono ?_
    rintro e w5 ⟨q2, rfl, hg, hq⟩
    have H5 := Lib.hid (And.intro ((H3.out.1.keep hg).alloc (.cells #[.int .i64 a3_0, .int .i64 a3_1, .int .i64 a3_2, .int .i64 a3_3, .int .i64 a3_4, .int .i64 a3_5, .slice (some ⟨q2, 0, none⟩) l3_6.length l3_6.length, .string ⟨yb.toArray⟩] 36)) (And.intro ((H3.out.2.1.keep hg).alloc (.cells #[.int .i64 a3_0, .int .i64 a3_1, .int .i64 a3_2, .int .i64 a3_3, .int .i64 a3_4, .int .i64 a3_5, .slice (some ⟨q2, 0, none⟩) l3_6.length l3_6.length, .string ⟨yb.toArray⟩] 36)) (And.intro (Bx.new w5 36 #[.int .i64 a3_0, .int .i64 a3_1, .int .i64 a3_2, .int .i64 a3_3, .int .i64 a3_4, .int .i64 a3_5, .slice (some ⟨q2, 0, none⟩) l3_6.length l3_6.length, .string ⟨yb.toArray⟩]) (And.intro (hq.kept (World.grownBy_alloc w5 (.cells #[.int .i64 a3_0, .int .i64 a3_1, .int .i64 a3_2, .int .i64 a3_3, .int .i64 a3_4, .int .i64 a3_5, .slice (some ⟨q2, 0, none⟩) l3_6.length l3_6.length, .string ⟨yb.toArray⟩] 36) none)) (gA (grownBy_trans H3.out.2.2 hg) (.cells #[.int .i64 a3_0, .int .i64 a3_1, .int .i64 a3_2, .int .i64 a3_3, .int .i64 a3_4, .int .i64 a3_5, .slice (some ⟨q2, 0, none⟩) l3_6.length l3_6.length, .string ⟨yb.toArray⟩] 36))))))
    clear hg hq le
    clear e0 e1 e2 e3 e4 e5 e6 e7
    go_upto_region 7 with fail
    generalize w5.heap.size = X at *
    generalize w5.alloc (.cells #[.int .i64 a3_0, .int .i64 a3_1, .int .i64 a3_2, .int .i64 a3_3, .int .i64 a3_4, .int .i64 a3_5, .slice (some ⟨q2, 0, none⟩) l3_6.length l3_6.length, .string ⟨yb.toArray⟩] 36) = w6 at *
    have x0 := H5.out.2.2.1.c 0 (x := .int .i64 a3_0) rfl
    have x1 := H5.out.2.2.1.c 1 (x := .int .i64 a3_1) rfl
    have x2 := H5.out.2.2.1.c 2 (x := .int .i64 a3_2) rfl
    have x3 := H5.out.2.2.1.c 3 (x := .int .i64 a3_3) rfl
    have x4 := H5.out.2.2.1.c 4 (x := .int .i64 a3_4) rfl
    have x5 := H5.out.2.2.1.c 5 (x := .int .i64 a3_5) rfl
    have x6 := H5.out.2.2.1.c 6 (x := .slice (some ⟨q2, 0, none⟩) l3_6.length l3_6.length) rfl
    have x7 := H5.out.2.2.1.c 7 (x := .string ⟨yb.toArray⟩) rfl
    have lx := H5.out.2.2.1.lt
    go_wp2_with fail
    refine (HI.out _ _ _ H5.out.2.2.2.1).mono ?_
    rintro e w7 ⟨rfl, hg⟩
    have H7 := Lib.hid (And.intro ((H5.out.1.keep hg).alloc (.cells #[.int .i64 X0, .string ⟨(X1 : List UInt8).toArray⟩] 42)) (And.intro ((H5.out.2.1.keep hg).alloc (.cells #[.int .i64 X0, .string ⟨(X1 : List UInt8).toArray⟩] 42)) (And.intro ((H5.out.2.2.1.keep hg).alloc (.cells #[.int .i64 X0, .string ⟨(X1 : List UInt8).toArray⟩] 42)) (And.intro ((H5.out.2.2.2.1.kept hg).kept (World.grownBy_alloc w7 (.cells #[.int .i64 X0, .string ⟨(X1 : List UInt8).toArray⟩] 42) none)) (And.intro (Bx.new w7 42 #[.int .i64 X0, .string ⟨(X1 : List UInt8).toArray⟩]) (gA (grownBy_trans H5.out.2.2.2.2 hg) (.cells #[.int .i64 X0, .string ⟨(X1 : List UInt8).toArray⟩] 42)))))))
    clear hg lx
    clear x0 x1 x2 x3 x4 x5 x6 x7
    go_upto_region 8 with fail
    generalize w7.heap.size = G at *
    generalize w7.alloc (.cells #[.int .i64 X0, .string ⟨(X1 : List UInt8).toArray⟩] 42) = w8 at *
    have k0 := H7.out.2.1.c 0 (x := .int .i64 X0) rfl
    have k1 := H7.out.2.1.c 1 (x := .string ⟨(X1 : List UInt8).toArray⟩) rfl
    have m0 := H7.out.2.2.2.2.1.c 0 (x := .int .i64 X0) rfl
    have m1 := H7.out.2.2.2.2.1.c 1 (x := .string ⟨(X1 : List UInt8).toArray⟩) rfl
    have lk := H7.out.2.1.lt
    have lm := H7.out.2.2.2.2.1.lt
    go_wp2_with fail
    refine (eq_pk X0 X1 _).mono ?_
    rintro e w11 ⟨rfl, hg⟩
    have H11 := Lib.hid (And.intro (H7.out.1.keep hg) (And.intro (H7.out.2.2.1.keep hg) (And.intro (H7.out.2.2.2.1.kept hg) (grownBy_trans H7.out.2.2.2.2.2 hg))))
    clear hg lk lm
    clear k0 k1
    clear m0 m1
    have e0 := H11.out.1.c 0 (x := .int .i64 a3_0) rfl
    have e1 := H11.out.1.c 1 (x := .int .i64 a3_1) rfl
    have e2 := H11.out.1.c 2 (x := .int .i64 a3_2) rfl
    have e3 := H11.out.1.c 3 (x := .int .i64 a3_3) rfl
    have e4 := H11.out.1.c 4 (x := .int .i64 a3_4) rfl
    have e5 := H11.out.1.c 5 (x := .int .i64 a3_5) rfl
    have e6 := H11.out.1.c 6 (x := .slice a3_6 l3_6.length cap3_6) rfl
    have e7 := H11.out.1.c 7 (x := .string ⟨yb.toArray⟩) rfl
    have x0 := H11.out.2.1.c 0 (x := .int .i64 a3_0) rfl
    have x1 := H11.out.2.1.c 1 (x := .int .i64 a3_1) rfl
    have x2 := H11.out.2.1.c 2 (x := .int .i64 a3_2) rfl
    have x3 := H11.out.2.1.c 3 (x := .int .i64 a3_3) rfl
    have x4 := H11.out.2.1.c 4 (x := .int .i64 a3_4) rfl
    have x5 := H11.out.2.1.c 5 (x := .int .i64 a3_5) rfl
    have x6 := H11.out.2.1.c 6 (x := .slice (some ⟨q2, 0, none⟩) l3_6.length l3_6.length) rfl
    have x7 := H11.out.2.1.c 7 (x := .string ⟨yb.toArray⟩) rfl
    have le := H11.out.1.lt
    have lx := H11.out.2.1.lt
    go_wp2_with fail
    go_region_with (first | (go_at_call 10; refine (to_tcp a3_0 a3_1 a3_2 a3_3 a3_4 a3_5 a3_6 cap3_6 l3_6 yb _ (HRG.out _ (grownBy_trans H11.out.2.2.2 (by first | with_reducible exact World.grownBy.refl _ _ | with_reducible exact grownBy_drew | with_reducible exact World.grownBy_alloc _ _ none | with_reducible exact grownBy_trans grownBy_drew (World.grownBy_alloc _ _ none) | with_reducible exact grownBy_trans (World.grownBy_alloc _ _ none) grownBy_drew))) hls).mono ?_; rintro e w12 ⟨q3, rfl, hg, hq⟩; have G2 := Lib.hid (show w11.grownBy w12 none from (by first | with_reducible exact hg | with_reducible exact grownBy_trans grownBy_drew hg)); have HQ := Lib.hid hq; clear hg hq; have x0 := ((H11.out.2.1).keep G2.out).c 0 (x := .int .i64 a3_0) rfl; have x1 := ((H11.out.2.1).keep G2.out).c 1 (x := .int .i64 a3_1) rfl; have x2 := ((H11.out.2.1).keep G2.out).c 2 (x := .int .i64 a3_2) rfl; have x3 := ((H11.out.2.1).keep G2.out).c 3 (x := .int .i64 a3_3) rfl; have x4 := ((H11.out.2.1).keep G2.out).c 4 (x := .int .i64 a3_4) rfl; have x5 := ((H11.out.2.1).keep G2.out).c 5 (x := .int .i64 a3_5) rfl; have x6 := ((H11.out.2.1).keep G2.out).c 6 (x := .slice (some ⟨q2, 0, none⟩) l3_6.length l3_6.length) rfl; have x7 := ((H11.out.2.1).keep G2.out).c 7 (x := .string ⟨yb.toArray⟩) rfl; have lx := ((H11.out.2.1).keep G2.out).lt) | (go_at_call 13; refine (eq_tcp a3_0 a3_1 a3_2 a3_3 a3_4 a3_5 _ _ _ _ l3_6 yb _ ((H11.out.2.2.1.kept G2.out).kept (by first | with_reducible exact World.grownBy.refl _ _ | with_reducible exact grownBy_drew | with_reducible exact World.grownBy_alloc _ _ none | with_reducible exact grownBy_trans grownBy_drew (World.grownBy_alloc _ _ none) | with_reducible exact grownBy_trans (World.grownBy_alloc _ _ none) grownBy_drew)) (HQ.out.kept (by first | with_reducible exact World.grownBy.refl _ _ | with_reducible exact grownBy_drew | with_reducible exact World.grownBy_alloc _ _ none | with_reducible exact grownBy_trans grownBy_drew (World.grownBy_alloc _ _ none) | with_reducible exact grownBy_trans (World.grownBy_alloc _ _ none) grownBy_drew)) hls).mono ?_; rintro e w13 ⟨rfl, hg⟩; have G3 := Lib.hid (show w12.grownBy w13 none from (by first | with_reducible exact hg | with_reducible exact grownBy_trans grownBy_drew hg)); clear hg))
    all_goals
      go_wp2_with fail
      go_ret
      exact ⟨rfl, below_new (grownBy_trans H11.out.2.2.2 (grownBy_trans G2.out G3.out))⟩

set_option maxRecDepth 100000 in
theorem lifted (os : Os) (started : os.Started) (H : Type) (enc : TypeId × Value → H) :
    ReturnsInHanded {} Try.checked os 4 .any (Rows.fnExactPacketOfSpec.pre6 enc Try.prog Try.f4 Rows.fnExactPacketOfRow.domain false) (Rows.fnExactPacketOfSpec.post enc Try.prog Try.f4 false true false false) := by
  refine returnsInHanded_of_change (C := Try.checked) own started (by kernel_rfl) Try.func4
    (ChangeSpec.witness6 (enc := enc) (C := Try.checked) false ⟨#[], #[.int .i64 0, .int .i64 0, .int .i64 0, .agg #[.int .i64 0, .int .i64 0, .int .i64 0, .int .i64 0, .int .i64 0, .int .i64 0, .slice none 0 0, .string ByteArray.empty]], []⟩ 8 (by kernel_rfl) (by kernel_rfl) (by kernel_rfl) (by kernel_rfl)) ?_
  intro W base args ds gs before hval0 hW hcnd _
  have hval : ∀ (j : Nat) t v, Try.f4.params[j]? = some t → args[j]? = some v → Value.okWide Try.prog W .any base t v := hval0
  have hW' := hW
  obtain ⟨p, q, hA0, hV, rfl, hfz, hnd⟩ := hW
  have hA : DataW.TrodAll enc Try.prog W 0 (fun _ => true) true Try.f4.params.toList args.toList ds p := hA0
  rw [Try.params4] at hA hval
  obtain ⟨v0, vs0, d0, ds0, p0, q0, hargs, rfl, rfl, h0, r0⟩ := trodAll_cons hA
  obtain ⟨v1, vs1, d1, ds1, p1, q1, rfl, rfl, rfl, h1, r1⟩ := trodAll_cons r0
  obtain ⟨v2, vs2, d2, ds2, p2, q2, rfl, rfl, rfl, h2, r2⟩ := trodAll_cons r1
  obtain ⟨v3, vs3, d3, ds3, p3, q3, rfl, rfl, rfl, h3, r3⟩ := trodAll_cons r2
  obtain ⟨rfl, rfl, rfl⟩ := trodAll_nil r3
  obtain rfl : args = #[v0, v1, v2, v3] := by cases args; simp_all
  obtain ⟨rfl, rfl⟩ := trodVars_none hV
  have k0 := h0
  have lt0 : ∀ x ∈ p0, x.block < W.heap.size := by obtain ⟨m, hm⟩ := k0; exact DataW.trod_lt m _ _ _ hm
  obtain ⟨a0, rfl, rfl, rfl, w0⟩ := open_int Try.underlying2 (hval 0 2 v0 rfl rfl) h0
  have k1 := h1
  have lt1 : ∀ x ∈ p1, x.block < W.heap.size := by obtain ⟨m, hm⟩ := k1; exact DataW.trod_lt m _ _ _ hm
  obtain ⟨a1, rfl, rfl, rfl, w1⟩ := open_int Try.underlying2 (hval 1 2 v1 rfl rfl) h1
  have k2 := h2
  have lt2 : ∀ x ∈ p2, x.block < W.heap.size := by obtain ⟨m, hm⟩ := k2; exact DataW.trod_lt m _ _ _ hm
  obtain ⟨a2, rfl, rfl, rfl, w2⟩ := open_int Try.underlying2 (hval 2 2 v2 rfl rfl) h2
  have k3 := h3
  have lt3 : ∀ x ∈ p3, x.block < W.heap.size := by obtain ⟨m, hm⟩ := k3; exact DataW.trod_lt m _ _ _ hm
  obtain ⟨c3_0, c3_1, c3_2, c3_3, c3_4, c3_5, c3_6, c3_7, y3_0, y3_1, y3_2, y3_3, y3_4, y3_5, y3_6, y3_7, m3, rfl, rfl, rfl, hy3_0, hy3_1, hy3_2, hy3_3, hy3_4, hy3_5, hy3_6, hy3_7⟩ := open_agg8 Try.underlying26 (by kernel_rfl) cells26 (hval 3 26 v3 rfl rfl) h3
  obtain ⟨a3_0, e3_0, rfl, w3_0⟩ := DataW.trod_int Try.underlying2 hy3_0
  simp only [List.cons.injEq, and_true] at e3_0
  subst e3_0
  obtain ⟨a3_1, e3_1, rfl, w3_1⟩ := DataW.trod_int Try.underlying2 hy3_1
  simp only [List.cons.injEq, and_true] at e3_1
  subst e3_1
  obtain ⟨a3_2, e3_2, rfl, w3_2⟩ := DataW.trod_int Try.underlying2 hy3_2
  simp only [List.cons.injEq, and_true] at e3_2
  subst e3_2
  obtain ⟨a3_3, e3_3, rfl, w3_3⟩ := DataW.trod_int Try.underlying2 hy3_3
  simp only [List.cons.injEq, and_true] at e3_3
  subst e3_3
  obtain ⟨a3_4, e3_4, rfl, w3_4⟩ := DataW.trod_int Try.underlying2 hy3_4
  simp only [List.cons.injEq, and_true] at e3_4
  subst e3_4
  obtain ⟨a3_5, e3_5, rfl, w3_5⟩ := DataW.trod_int Try.underlying2 hy3_5
  simp only [List.cons.injEq, and_true] at e3_5
  subst e3_5
  obtain ⟨a3_6, len3_6, cap3_6, e3_6⟩ := slice_form Try.underlying24 hy3_6
  simp only [List.cons.injEq, and_true] at e3_6
  subst e3_6
  obtain ⟨l3_6, e3_6, w3_6, n3_6⟩ : ∃ l : List Rg, l.length = len3_6 ∧ RgAt W a3_6 l ∧ l.length ≤ maxLen := by
    rcases Deep.open_slice_pairs Try.underlying24 Try.underlying84 cells84 rfl rfl (by kernel_rfl) (by kernel_rfl) hy3_6 with ⟨hcs, _⟩ | ⟨x, l, c, m, n, V0, V1, D0, D1, P0, P1, hcs, _, hl, hm, hmm, _, hall⟩
    · simp at hcs
      obtain ⟨rfl, rfl, rfl⟩ := hcs
      exact ⟨[], rfl, .inl rfl, Nat.zero_le _⟩
    · simp at hcs
      obtain ⟨rfl, rfl, rfl⟩ := hcs
      have hmc : m = cap3_6 := by simpa using hmm
      obtain ⟨ps, hlen, hps⟩ := list_of (P := fun i (p : Rg) => W.cell? (x.add (i * 2)) = some (.int .i64 p.1) ∧ W.cell? (x.add (i * 2 + 1)) = some (.int .i64 p.2)) len3_6 (fun i hi => by
        obtain ⟨c0, c1, t0, t1⟩ := hall i (by omega)
        obtain ⟨u, e0, _, wu⟩ := DataW.trod_int Try.underlying2 t0
        obtain ⟨s, e1, _, ws⟩ := DataW.trod_int Try.underlying2 t1
        simp only [List.cons.injEq, and_true] at e0 e1
        rw [e0] at c0
        rw [e1] at c1
        exact ⟨(u, s), c0, c1⟩)
      exact ⟨ps, hlen, rgAt_of fun i hi => ⟨(hps i hi).1, (hps i hi).2⟩, by omega⟩
  subst e3_6
  obtain ⟨a3_7, e3_7, rfl, w3_7⟩ := DataW.trod_string Try.underlying9 hy3_7
  simp only [List.cons.injEq, and_true] at e3_7
  subst e3_7
  clear hA0 hval0
  refine (walk a0 a1 a2 a3_0 a3_1 a3_2 a3_3 a3_4 a3_5 a3_6 cap3_6 l3_6 a3_7 W w0 w1 w2 w3_0 w3_1 w3_2 w3_3 w3_4 w3_5 w3_6 n3_6 w3_7).mono fun e W' ⟨he, bel⟩ => ?_
  subst he
  exact ⟨_, rfl, _, _, _, [], _, [], hW', trodAll_mk1 (shut_bool Try.underlying4 _), (trodAll_cons_mk (Below.trod laidOut (by kernel_rfl) (of_decide_eq_true (by kernel_rfl)) k0 bel lt0) (trodAll_cons_mk (Below.trod laidOut (by kernel_rfl) (of_decide_eq_true (by kernel_rfl)) k1 bel lt1) (trodAll_cons_mk (Below.trod laidOut (by kernel_rfl) (of_decide_eq_true (by kernel_rfl)) k2 bel lt2) (trodAll_cons_mk (Below.trod laidOut (by kernel_rfl) (of_decide_eq_true (by kernel_rfl)) k3 bel lt3) trodAll_mk0)))), rfl, bel.frame _, fun h => by cases h⟩

theorem over : Rows.fnExactPacketOfRow.holds Try.pinned (OpenSpec.ofChange Rows.fnExactPacketOfSpec) :=
  OpenClaim.holds_of_wide 4 Try.f4 rfl rfl rfl rfl rfl rfl rfl ⟨rfl, rfl, rfl, rfl, rfl⟩ rfl rfl rfl rfl rfl (by kernel_rfl) Try.func4 (by kernel_rfl)
    (of_decide_eq_true (by kernel_rfl)) (by unfold Func.isWrapper; first | (rw [if_pos (by decide +kernel)]; kernel_rfl) | (rw [if_neg (by decide +kernel)]; exact ⟨rfl, rfl⟩))
    (fun os started H enc _ => lifted os started H enc)

theorem proved : Rows.FnExactPacketOfSaid := over
end Go.Proofs.Ytihaamgimakcoaa.fnExactPacketOf
