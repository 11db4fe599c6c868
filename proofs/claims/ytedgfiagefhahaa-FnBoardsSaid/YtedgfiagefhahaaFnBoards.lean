/- For every code the law FnBoards answers true and leaves its argument as it was; no condition. -/
import Derived.Test.YtedgfiagefhahaaRows
import Derived.Test.YtedgfiagefhahaaDraw
import Derived.Test.YtedgfiagefhahaaBdB
import Derived.WalkKit
import Derived.ProofKit
import Derived.OpenShut
import Derived.ShutString
import Derived.ChangeOld
import Derived.Below
import Derived.Lib.SmallJoins
namespace Go.Proofs.Ytedgfiagefhahaa.fnBoards
open Go.ChangeShapes Go.WideShapes Go.ChangeAt Go.RowKit Go.Joins
open Go.ChangeMaps (open_string shut_string)
set_option linter.unusedVariables false

theorem own : ownKnob Try.prog.godebug = none := by kernel_rfl
theorem laidOut : laidOutB Try.prog = true := by kernel_rfl


def IsRow (k : IntKind) (w : World) (a : Option Addr) (len cap : Nat) (zs : List Int) : Prop :=
  (a = none ∧ len = 0 ∧ cap = 0 ∧ zs = []) ∨
  ∃ x, a = some x ∧ len ≤ cap ∧ cap ≤ maxLen ∧ zs.length = cap ∧ (∀ i, i < zs.length → w.cell? (x.add i) = some (.int k (zs.getD i 0))) ∧ ∀ n ∈ zs, (Lit.int k n).wf = true

theorem bd_yes_impl {u n : Int} {a : Option Addr} {c : Nat} {l : List Rg} (hb : bdOk u n l = true) (W : World) (h : RgAt W a l) : Calls Try.prog 17 #[bdV u n a l.length c] W fun e w' => e = .returned (.bool true) ∧ W.grownBy w' none := by
  have k := bd_ok_impl u n a c l W h
  rw [hb] at k
  exact k
theorem flight_at {u n x : Int} {a : Option Addr} {c : Nat} {l : List Rg} (hf : flightL u n l = x) (W : World) (h : RgAt W a l) : Calls Try.prog 19 #[bdV u n a l.length c] W fun e w' => e = .returned (.int .i64 x) ∧ W.grownBy w' none := by
  have k := flight_impl u n a c l W h
  rw [hf] at k
  exact k
theorem sent_k {u n k U N : Int} {l L : List Rg} (h : sentL u n l k = (U, N, L, true)) : 1 ≤ k ∧ k ≤ 1000000000 := by
  unfold sentL at h
  split at h
  · rename_i hc
    have hb := bd_of hc.1
    have := hb.1
    have := hb.2.1
    omega
  · simp at h
theorem ack_k {u n k U N : Int} {l L : List Rg} (h : ackL u n l k = (U, N, L, true)) : 0 ≤ k ∧ k ≤ n ∧ n ≤ 1000000000 := by
  unfold ackL at h
  split at h
  · rename_i hc
    have hb := bd_of hc.1
    have := hb.1
    exact ⟨by omega, hc.2.2, hb.2.2.1⟩
  · simp at h
theorem sacked_as {u n p : Int} {a : Option Addr} {c : Nat} {l : List Rg} {x : Bool} (hx : inL l p = x) (W : World) (h : RgAt W a l) (hl : l.length ≤ 1048576) : Calls Try.prog 20 #[bdV u n a l.length c, .int .i64 p] W fun e w' => e = .returned (.bool x) ∧ W.grownBy w' none := by
  have k := sacked_any u n a c l p W h hl
  rw [hx] at k
  exact k
def FbRel (w9 : World) (k : Int) (i : Value) (wr : World) : Prop := ∃ p : Int, i = .int .i64 p ∧ k < p ∧ p ≤ k + 61 ∧ w9.grownBy wr none
theorem flight_bd (u n : Int) (l : List Rg) : -50000000000 ≤ flightL u n l ∧ flightL u n l ≤ 1000000000 := by
  unfold flightL
  split
  · rename_i h
    have hb := bd_of h
    have h1 := sumR_bd l (rgN_of hb) l.length (Nat.le_refl _)
    rw [List.take_length] at h1
    have h2 := hb.1
    have h3 := hb.2.2.1
    have h4 := hb.2.2.2.1
    have h5 := hb.2.1
    have h6 : 1000000000 * (l.length : Int) ≤ 1000000000 * 40 := by omega
    omega
  · omega

set_option maxRecDepth 100000 in
set_option maxHeartbeats 60000000 in
theorem walk (a0 : Option Addr) (len0 cap0 : Nat) (z0 : List Int) (w : World) (w0 : IsRow .u8 w a0 len0 cap0 z0) :
    Calls Try.prog 3 #[.slice a0 len0 cap0] w fun e w' => e = .returned (.bool true) ∧ Below w.heap.size w w' := by
  have hc := code_of w0
  clear w0
  have HC := Lib.hid hc
  clear hc
  by_cases hbig : 1048576 < len0
  · go_enter Try.func3, Try.ntmps3
    go_wp2_with (go_at_call 8; refine (big_any _ _ _ _).mono ?_; rintro e w' ⟨rfl, rfl⟩)
    go_ret
    exact ⟨rfl, Below.refl _ _⟩
  · go_enter Try.func3, Try.ntmps3
    go_wp2_with (go_at_call 8; refine (big_any _ _ _ _).mono ?_; rintro e w' ⟨rfl, rfl⟩)
    have H0 := Lib.hid (And.intro HC.out (World.grownBy.refl w none))
    go_wp2_with fail
    refine (draw_bsent _ _ _ _ H0.out.1).mono ?_
    rintro e v0 ⟨u, n, ao, co, l, k, rfl, hk, hd⟩
    have hg := hd.g
    have hrow := hd.row.at
    have hro := own_rowOk hd.row
    have HL1 := Lib.hid hd.ll
    clear hk hd
    obtain ⟨⟨U, N, L, D⟩, hR⟩ : ∃ R, R = sentL u n l k := ⟨_, rfl⟩
    have HR1 := Lib.hid hR.symm
    clear hR
    have H1 := Lib.hid (And.intro ((H0.out.1.kept hg).kept (World.grownBy_alloc v0 (.cells #[.int .i64 u, .int .i64 n, .slice ao l.length co] 26) none)) (And.intro (BB.new v0 (u := u) (n := n) (c := co) hrow) (And.intro ((hro).kept (World.grownBy_alloc v0 (.cells #[.int .i64 u, .int .i64 n, .slice ao l.length co] 26) none)) (gA (grownBy_trans (H0.out.2) hg) (.cells #[.int .i64 u, .int .i64 n, .slice ao l.length co] 26)))))
    clear hg hrow
    go_upto_region 4 with fail
    generalize v0.heap.size = Bb at *
    generalize v0.alloc (.cells #[.int .i64 u, .int .i64 n, .slice ao l.length co] 26) = w1 at *
    clear hro
    have u1_0 := H1.out.2.1.1.c 0 (x := .int .i64 u) rfl
    have u1_1 := H1.out.2.1.1.c 1 (x := .int .i64 n) rfl
    have u1_2 := H1.out.2.1.1.c 2 (x := .slice ao l.length co) rfl
    have lu1 := H1.out.2.1.1.lt
    go_wp2_with fail
    refine ((sent_impl u n ao co l k _ H1.out.2.2.1).mono fun _ _ hh => bd_four HR1.out hh).mono ?_
    rintro e v1 ⟨p1, q1, rfl, hg, ho⟩
    have hrow := ho.at
    clear ho
    have H2 := Lib.hid (And.intro ((H1.out.1.kept hg).kept (World.grownBy_alloc v1 (.cells #[.int .i64 U, .int .i64 N, .slice p1 L.length q1] 26) none)) (And.intro ((H1.out.2.1.keep hg).keep (World.grownBy_alloc v1 (.cells #[.int .i64 U, .int .i64 N, .slice p1 L.length q1] 26) none)) (And.intro ((H1.out.2.2.1.kept hg).kept (World.grownBy_alloc v1 (.cells #[.int .i64 U, .int .i64 N, .slice p1 L.length q1] 26) none)) (And.intro (BB.new v1 (u := U) (n := N) (c := q1) hrow) (gA (grownBy_trans (H1.out.2.2.2) hg) (.cells #[.int .i64 U, .int .i64 N, .slice p1 L.length q1] 26))))))
    clear hg hrow u1_0 u1_1 u1_2 lu1
    go_upto_region 5 with fail
    generalize v1.heap.size = Bs at *
    generalize v1.alloc (.cells #[.int .i64 U, .int .i64 N, .slice p1 L.length q1] 26) = w2 at *
    have u1_0 := H2.out.2.1.1.c 0 (x := .int .i64 u) rfl
    have u1_1 := H2.out.2.1.1.c 1 (x := .int .i64 n) rfl
    have u1_2 := H2.out.2.1.1.c 2 (x := .slice ao l.length co) rfl
    have lu1 := H2.out.2.1.1.lt
    go_wp2_with fail
    refine ((sent_spec u n ao co l k _ H2.out.2.2.1 (by have := HL1.out; omega)).mono fun _ _ hh => bd_four HR1.out hh).mono ?_
    rintro e v2 ⟨p2, q2, rfl, hg, ho⟩
    have hrow := ho.at
    clear ho
    have H3 := Lib.hid (And.intro ((H2.out.1.kept hg).kept (World.grownBy_alloc v2 (.cells #[.int .i64 U, .int .i64 N, .slice p2 L.length q2] 26) none)) (And.intro ((H2.out.2.1.keep hg).keep (World.grownBy_alloc v2 (.cells #[.int .i64 U, .int .i64 N, .slice p2 L.length q2] 26) none)) (And.intro ((H2.out.2.2.1.kept hg).kept (World.grownBy_alloc v2 (.cells #[.int .i64 U, .int .i64 N, .slice p2 L.length q2] 26) none)) (And.intro ((H2.out.2.2.2.1.keep hg).keep (World.grownBy_alloc v2 (.cells #[.int .i64 U, .int .i64 N, .slice p2 L.length q2] 26) none)) (And.intro (BB.new v2 (u := U) (n := N) (c := q2) hrow) (gA (grownBy_trans (H2.out.2.2.2.2) hg) (.cells #[.int .i64 U, .int .i64 N, .slice p2 L.length q2] 26)))))))
    clear hg hrow u1_0 u1_1 u1_2 lu1
    go_upto_region 6 with fail
    generalize v2.heap.size = Bw at *
    generalize v2.alloc (.cells #[.int .i64 U, .int .i64 N, .slice p2 L.length q2] 26) = w3 at *
    go_wp2_with fail
    refine (draw_back _ _ _ _ H3.out.1).mono ?_
    rintro e v3 ⟨y2, m2, ao2, co2, l2, k2, rfl, hk, hd⟩
    have hg := hd.g
    have hrow := hd.row.at
    have hro := own_rowOk hd.row
    have HL2 := Lib.hid hd.ll
    have HK2 := Lib.hid hk
    clear hk hd
    obtain ⟨⟨U2, N2, L2, D2⟩, hR⟩ : ∃ R, R = ackL y2 m2 l2 k2 := ⟨_, rfl⟩
    have HR2 := Lib.hid hR.symm
    clear hR
    have H4 := Lib.hid (And.intro ((H3.out.1.kept hg).kept (World.grownBy_alloc v3 (.cells #[.int .i64 y2, .int .i64 m2, .slice ao2 l2.length co2] 26) none)) (And.intro ((H3.out.2.1.keep hg).keep (World.grownBy_alloc v3 (.cells #[.int .i64 y2, .int .i64 m2, .slice ao2 l2.length co2] 26) none)) (And.intro ((H3.out.2.2.1.kept hg).kept (World.grownBy_alloc v3 (.cells #[.int .i64 y2, .int .i64 m2, .slice ao2 l2.length co2] 26) none)) (And.intro ((H3.out.2.2.2.1.keep hg).keep (World.grownBy_alloc v3 (.cells #[.int .i64 y2, .int .i64 m2, .slice ao2 l2.length co2] 26) none)) (And.intro ((H3.out.2.2.2.2.1.keep hg).keep (World.grownBy_alloc v3 (.cells #[.int .i64 y2, .int .i64 m2, .slice ao2 l2.length co2] 26) none)) (And.intro (BB.new v3 (u := y2) (n := m2) (c := co2) hrow) (And.intro ((hro).kept (World.grownBy_alloc v3 (.cells #[.int .i64 y2, .int .i64 m2, .slice ao2 l2.length co2] 26) none)) (gA (grownBy_trans (H3.out.2.2.2.2.2) hg) (.cells #[.int .i64 y2, .int .i64 m2, .slice ao2 l2.length co2] 26)))))))))
    clear hg hrow
    go_upto_region 7 with fail
    generalize v3.heap.size = Bc at *
    generalize v3.alloc (.cells #[.int .i64 y2, .int .i64 m2, .slice ao2 l2.length co2] 26) = w4 at *
    clear hro
    have u5_0 := H4.out.2.2.2.2.2.1.1.c 0 (x := .int .i64 y2) rfl
    have u5_1 := H4.out.2.2.2.2.2.1.1.c 1 (x := .int .i64 m2) rfl
    have u5_2 := H4.out.2.2.2.2.2.1.1.c 2 (x := .slice ao2 l2.length co2) rfl
    have lu5 := H4.out.2.2.2.2.2.1.1.lt
    go_wp2_with fail
    refine ((ack_impl y2 m2 ao2 co2 l2 k2 _ H4.out.2.2.2.2.2.2.1).mono fun _ _ hh => bd_four HR2.out hh).mono ?_
    rintro e v4 ⟨p3, q3, rfl, hg, ho⟩
    have hrow := ho.at
    clear ho
    have H5 := Lib.hid (And.intro ((H4.out.1.kept hg).kept (World.grownBy_alloc v4 (.cells #[.int .i64 U2, .int .i64 N2, .slice p3 L2.length q3] 26) none)) (And.intro ((H4.out.2.1.keep hg).keep (World.grownBy_alloc v4 (.cells #[.int .i64 U2, .int .i64 N2, .slice p3 L2.length q3] 26) none)) (And.intro ((H4.out.2.2.1.kept hg).kept (World.grownBy_alloc v4 (.cells #[.int .i64 U2, .int .i64 N2, .slice p3 L2.length q3] 26) none)) (And.intro ((H4.out.2.2.2.1.keep hg).keep (World.grownBy_alloc v4 (.cells #[.int .i64 U2, .int .i64 N2, .slice p3 L2.length q3] 26) none)) (And.intro ((H4.out.2.2.2.2.1.keep hg).keep (World.grownBy_alloc v4 (.cells #[.int .i64 U2, .int .i64 N2, .slice p3 L2.length q3] 26) none)) (And.intro ((H4.out.2.2.2.2.2.1.keep hg).keep (World.grownBy_alloc v4 (.cells #[.int .i64 U2, .int .i64 N2, .slice p3 L2.length q3] 26) none)) (And.intro ((H4.out.2.2.2.2.2.2.1.kept hg).kept (World.grownBy_alloc v4 (.cells #[.int .i64 U2, .int .i64 N2, .slice p3 L2.length q3] 26) none)) (And.intro (BB.new v4 (u := U2) (n := N2) (c := q3) hrow) (gA (grownBy_trans (H4.out.2.2.2.2.2.2.2) hg) (.cells #[.int .i64 U2, .int .i64 N2, .slice p3 L2.length q3] 26))))))))))
    clear hg hrow u5_0 u5_1 u5_2 lu5
    go_upto_region 8 with fail
    generalize v4.heap.size = Ba at *
    generalize v4.alloc (.cells #[.int .i64 U2, .int .i64 N2, .slice p3 L2.length q3] 26) = w5 at *
    have u5_0 := H5.out.2.2.2.2.2.1.1.c 0 (x := .int .i64 y2) rfl
    have u5_1 := H5.out.2.2.2.2.2.1.1.c 1 (x := .int .i64 m2) rfl
    have u5_2 := H5.out.2.2.2.2.2.1.1.c 2 (x := .slice ao2 l2.length co2) rfl
    have lu5 := H5.out.2.2.2.2.2.1.1.lt
    go_wp2_with fail
    refine ((ack_spec y2 m2 ao2 co2 l2 k2 _ H5.out.2.2.2.2.2.2.1 (by have := HL2.out; omega)).mono fun _ _ hh => bd_four HR2.out hh).mono ?_
    rintro e v5 ⟨p4, q4, rfl, hg, ho⟩
    have hrow := ho.at
    clear ho
    have H6 := Lib.hid (And.intro ((H5.out.1.kept hg).kept (World.grownBy_alloc v5 (.cells #[.int .i64 U2, .int .i64 N2, .slice p4 L2.length q4] 26) none)) (And.intro ((H5.out.2.1.keep hg).keep (World.grownBy_alloc v5 (.cells #[.int .i64 U2, .int .i64 N2, .slice p4 L2.length q4] 26) none)) (And.intro ((H5.out.2.2.1.kept hg).kept (World.grownBy_alloc v5 (.cells #[.int .i64 U2, .int .i64 N2, .slice p4 L2.length q4] 26) none)) (And.intro ((H5.out.2.2.2.1.keep hg).keep (World.grownBy_alloc v5 (.cells #[.int .i64 U2, .int .i64 N2, .slice p4 L2.length q4] 26) none)) (And.intro ((H5.out.2.2.2.2.1.keep hg).keep (World.grownBy_alloc v5 (.cells #[.int .i64 U2, .int .i64 N2, .slice p4 L2.length q4] 26) none)) (And.intro ((H5.out.2.2.2.2.2.1.keep hg).keep (World.grownBy_alloc v5 (.cells #[.int .i64 U2, .int .i64 N2, .slice p4 L2.length q4] 26) none)) (And.intro ((H5.out.2.2.2.2.2.2.1.kept hg).kept (World.grownBy_alloc v5 (.cells #[.int .i64 U2, .int .i64 N2, .slice p4 L2.length q4] 26) none)) (And.intro ((H5.out.2.2.2.2.2.2.2.1.keep hg).keep (World.grownBy_alloc v5 (.cells #[.int .i64 U2, .int .i64 N2, .slice p4 L2.length q4] 26) none)) (And.intro (BB.new v5 (u := U2) (n := N2) (c := q4) hrow) (gA (grownBy_trans (H5.out.2.2.2.2.2.2.2.2) hg) (.cells #[.int .i64 U2, .int .i64 N2, .slice p4 L2.length q4] 26)))))))))))
    clear hg hrow u5_0 u5_1 u5_2 lu5
    go_upto_region 9 with fail
    generalize v5.heap.size = Bl at *
    generalize v5.alloc (.cells #[.int .i64 U2, .int .i64 N2, .slice p4 L2.length q4] 26) = w6 at *
    go_wp2_with fail
    refine (draw_bok _ _ _ _ H6.out.1).mono ?_
    rintro e v6 ⟨y3, m3, ao3, co3, l3, rfl, hd⟩
    have hg := hd.g
    have hrow := hd.row.at
    have HL3 := Lib.hid hd.ll
    clear hd
    have H7 := Lib.hid (And.intro ((H6.out.1.kept hg).kept (World.grownBy_alloc v6 (.cells #[.int .i64 y3, .int .i64 m3, .slice ao3 l3.length co3] 26) none)) (And.intro ((H6.out.2.1.keep hg).keep (World.grownBy_alloc v6 (.cells #[.int .i64 y3, .int .i64 m3, .slice ao3 l3.length co3] 26) none)) (And.intro ((H6.out.2.2.1.kept hg).kept (World.grownBy_alloc v6 (.cells #[.int .i64 y3, .int .i64 m3, .slice ao3 l3.length co3] 26) none)) (And.intro ((H6.out.2.2.2.1.keep hg).keep (World.grownBy_alloc v6 (.cells #[.int .i64 y3, .int .i64 m3, .slice ao3 l3.length co3] 26) none)) (And.intro ((H6.out.2.2.2.2.1.keep hg).keep (World.grownBy_alloc v6 (.cells #[.int .i64 y3, .int .i64 m3, .slice ao3 l3.length co3] 26) none)) (And.intro ((H6.out.2.2.2.2.2.1.keep hg).keep (World.grownBy_alloc v6 (.cells #[.int .i64 y3, .int .i64 m3, .slice ao3 l3.length co3] 26) none)) (And.intro ((H6.out.2.2.2.2.2.2.1.kept hg).kept (World.grownBy_alloc v6 (.cells #[.int .i64 y3, .int .i64 m3, .slice ao3 l3.length co3] 26) none)) (And.intro ((H6.out.2.2.2.2.2.2.2.1.keep hg).keep (World.grownBy_alloc v6 (.cells #[.int .i64 y3, .int .i64 m3, .slice ao3 l3.length co3] 26) none)) (And.intro ((H6.out.2.2.2.2.2.2.2.2.1.keep hg).keep (World.grownBy_alloc v6 (.cells #[.int .i64 y3, .int .i64 m3, .slice ao3 l3.length co3] 26) none)) (And.intro (BB.new v6 (u := y3) (n := m3) (c := co3) hrow) (gA (grownBy_trans (H6.out.2.2.2.2.2.2.2.2.2) hg) (.cells #[.int .i64 y3, .int .i64 m3, .slice ao3 l3.length co3] 26))))))))))))
    clear hg hrow
    go_upto_region 10 with fail
    generalize v6.heap.size = Bx3 at *
    generalize v6.alloc (.cells #[.int .i64 y3, .int .i64 m3, .slice ao3 l3.length co3] 26) = w7 at *
    go_cut [81] (fun s81 wx => s81 = .bool false ∧ w7.grownBy wx none)
    case first =>
      have fs0 := H7.out.2.2.2.1.bx.c 0 (x := .int .i64 U) rfl
      have fs1 := H7.out.2.2.2.1.bx.c 1 (x := .int .i64 N) rfl
      have fs2 := H7.out.2.2.2.1.bx.c 2 (x := .slice p1 L.length q1) rfl
      have fw0 := H7.out.2.2.2.2.1.bx.c 0 (x := .int .i64 U) rfl
      have fw1 := H7.out.2.2.2.2.1.bx.c 1 (x := .int .i64 N) rfl
      have fw2 := H7.out.2.2.2.2.1.bx.c 2 (x := .slice p2 L.length q2) rfl
      have fa0 := H7.out.2.2.2.2.2.2.2.1.bx.c 0 (x := .int .i64 U2) rfl
      have fa1 := H7.out.2.2.2.2.2.2.2.1.bx.c 1 (x := .int .i64 N2) rfl
      have fa2 := H7.out.2.2.2.2.2.2.2.1.bx.c 2 (x := .slice p3 L2.length q3) rfl
      have fl0 := H7.out.2.2.2.2.2.2.2.2.1.bx.c 0 (x := .int .i64 U2) rfl
      have fl1 := H7.out.2.2.2.2.2.2.2.2.1.bx.c 1 (x := .int .i64 N2) rfl
      have fl2 := H7.out.2.2.2.2.2.2.2.2.1.bx.c 2 (x := .slice p4 L2.length q4) rfl
      have fx0 := H7.out.2.2.2.2.2.2.2.2.2.1.bx.c 0 (x := .int .i64 y3) rfl
      have fx1 := H7.out.2.2.2.2.2.2.2.2.2.1.bx.c 1 (x := .int .i64 m3) rfl
      have fx2 := H7.out.2.2.2.2.2.2.2.2.2.1.bx.c 2 (x := .slice ao3 l3.length co3) rfl
      go_region_with (first | (go_at_call 16; ((with_reducible refine (same_board U N p1 p2 q1 q2 L _ ((H7.out.2.2.2.1.rg.kept (by first | with_reducible exact World.grownBy.refl _ _ | with_reducible exact grownBy_drew))) ((H7.out.2.2.2.2.1.rg.kept (by first | with_reducible exact World.grownBy.refl _ _ | with_reducible exact grownBy_drew))) (sent_len HR1.out)).mono ?_); rintro e v20 ⟨rfl, hg⟩; have G2 := Lib.hid (show w7.grownBy v20 none from (by first | with_reducible exact hg | with_reducible exact grownBy_trans grownBy_drew hg)); clear hg; have fa0 := (H7.out.2.2.2.2.2.2.2.1.bx.keep G2.out).c 0 (x := .int .i64 U2) rfl; have fa1 := (H7.out.2.2.2.2.2.2.2.1.bx.keep G2.out).c 1 (x := .int .i64 N2) rfl; have fa2 := (H7.out.2.2.2.2.2.2.2.1.bx.keep G2.out).c 2 (x := .slice p3 L2.length q3) rfl; have fl0 := (H7.out.2.2.2.2.2.2.2.2.1.bx.keep G2.out).c 0 (x := .int .i64 U2) rfl; have fl1 := (H7.out.2.2.2.2.2.2.2.2.1.bx.keep G2.out).c 1 (x := .int .i64 N2) rfl; have fl2 := (H7.out.2.2.2.2.2.2.2.2.1.bx.keep G2.out).c 2 (x := .slice p4 L2.length q4) rfl)) | (go_at_call 16; ((with_reducible refine (same_board U2 N2 p3 p4 q3 q4 L2 _ ((H7.out.2.2.2.2.2.2.2.1.rg.kept G2.out)) ((H7.out.2.2.2.2.2.2.2.2.1.rg.kept G2.out)) (ack_len HR2.out)).mono ?_); rintro e v21 ⟨rfl, hg⟩; have G3 := Lib.hid (show v20.grownBy v21 none from (by first | with_reducible exact hg | with_reducible exact grownBy_trans grownBy_drew hg)); clear hg; have fx0 := (H7.out.2.2.2.2.2.2.2.2.2.1.bx.keep (grownBy_trans G2.out G3.out)).c 0 (x := .int .i64 y3) rfl; have fx1 := (H7.out.2.2.2.2.2.2.2.2.2.1.bx.keep (grownBy_trans G2.out G3.out)).c 1 (x := .int .i64 m3) rfl; have fx2 := (H7.out.2.2.2.2.2.2.2.2.2.1.bx.keep (grownBy_trans G2.out G3.out)).c 2 (x := .slice ao3 l3.length co3) rfl)) | (go_at_call 17; ((with_reducible refine (bd_ok_impl y3 m3 ao3 co3 l3 _ ((H7.out.2.2.2.2.2.2.2.2.2.1.rg.kept (grownBy_trans G2.out G3.out)))).mono ?_); rintro e v22 ⟨rfl, hg⟩; have G4 := Lib.hid (show v21.grownBy v22 none from (by first | with_reducible exact hg | with_reducible exact grownBy_trans grownBy_drew hg)); clear hg; have fx0 := (H7.out.2.2.2.2.2.2.2.2.2.1.bx.keep (grownBy_trans (grownBy_trans G2.out G3.out) G4.out)).c 0 (x := .int .i64 y3) rfl; have fx1 := (H7.out.2.2.2.2.2.2.2.2.2.1.bx.keep (grownBy_trans (grownBy_trans G2.out G3.out) G4.out)).c 1 (x := .int .i64 m3) rfl; have fx2 := (H7.out.2.2.2.2.2.2.2.2.2.1.bx.keep (grownBy_trans (grownBy_trans G2.out G3.out) G4.out)).c 2 (x := .slice ao3 l3.length co3) rfl)) | (go_at_call 18; ((with_reducible refine (bd_ok_spec y3 m3 ao3 co3 l3 _ ((H7.out.2.2.2.2.2.2.2.2.2.1.rg.kept (grownBy_trans (grownBy_trans G2.out G3.out) G4.out))) (by have := HL3.out; omega)).mono ?_); rintro e v23 ⟨rfl, hg⟩; have G5 := Lib.hid (show v22.grownBy v23 none from (by first | with_reducible exact hg | with_reducible exact grownBy_trans grownBy_drew hg)); clear hg; skip)))
      all_goals
        go_wp2_with fail
        go_meet
        first | exact ⟨rfl, grownBy_trans (grownBy_trans (grownBy_trans G2.out G3.out) G4.out) G5.out⟩ | exact ⟨by simp, grownBy_trans (grownBy_trans (grownBy_trans G2.out G3.out) G4.out) G5.out⟩ | (trace_state; fail)
    case rest =>
      obtain ⟨rfl, hg⟩ := hcut
      have H8 := Lib.hid (And.intro (H7.out.1.kept hg) (And.intro (H7.out.2.1.keep hg) (And.intro (H7.out.2.2.1.kept hg) (And.intro (H7.out.2.2.2.1.keep hg) (And.intro (H7.out.2.2.2.2.1.keep hg) (And.intro (H7.out.2.2.2.2.2.1.keep hg) (And.intro (H7.out.2.2.2.2.2.2.1.kept hg) (And.intro (H7.out.2.2.2.2.2.2.2.1.keep hg) (And.intro (H7.out.2.2.2.2.2.2.2.2.1.keep hg) (And.intro (H7.out.2.2.2.2.2.2.2.2.2.1.keep hg) (grownBy_trans (H7.out.2.2.2.2.2.2.2.2.2.2) hg)))))))))))
      clear hg
      generalize hwc : wc = w8 at *
      clear hwc
      go_upto_region 12 with fail
      go_cut [103] (fun s103 wx => s103 = .bool false ∧ w8.grownBy wx none)
      case first =>
        cases D
        · go_quiet (fail)
          go_wp2_with fail
          go_meet
          first | exact ⟨rfl, by first | exact World.grownBy.refl _ _ | exact grownBy_drew | exact grownBy_drewN _⟩ | (trace_state; fail)
        · obtain ⟨hb, hf, hu⟩ := sent_facts HR1.out
          have hun : (U != u) = false := by rw [hu]; simp
          have huu : (U == u) = true := by rw [hu]; simp
          clear hu
          have hkb := sent_k HR1.out
          have hfb := flight_bd u n l
          obtain ⟨Z, hZ⟩ : ∃ Z, Z = flightL u n l := ⟨_, rfl⟩
          rw [← hZ] at hf hfb
          have HB := Lib.hid hb
          have HF := Lib.hid hf
          have HZ := Lib.hid hZ.symm
          clear hb hf hZ
          have s1 : IntKind.i64.wrap (Z + k) = Z + k := IntWalk.i64_in _ (by omega)
          have fs0 := H8.out.2.2.2.1.bx.c 0 (x := .int .i64 U) rfl
          have fs1 := H8.out.2.2.2.1.bx.c 1 (x := .int .i64 N) rfl
          have fs2 := H8.out.2.2.2.1.bx.c 2 (x := .slice p1 L.length q1) rfl
          have fb0 := H8.out.2.1.bx.c 0 (x := .int .i64 u) rfl
          have fb1 := H8.out.2.1.bx.c 1 (x := .int .i64 n) rfl
          have fb2 := H8.out.2.1.bx.c 2 (x := .slice ao l.length co) rfl
          go_region_with (first | (go_at_call 17; ((with_reducible refine (bd_yes_impl HB.out _ ((H8.out.2.2.2.1.rg.kept (by first | with_reducible exact World.grownBy.refl _ _ | with_reducible exact grownBy_drew)))).mono ?_); rintro e v20 ⟨rfl, hg⟩; have G2 := Lib.hid (show w8.grownBy v20 none from (by first | with_reducible exact hg | with_reducible exact grownBy_trans grownBy_drew hg)); clear hg; have fs0 := (H8.out.2.2.2.1.bx.keep G2.out).c 0 (x := .int .i64 U) rfl; have fs1 := (H8.out.2.2.2.1.bx.keep G2.out).c 1 (x := .int .i64 N) rfl; have fs2 := (H8.out.2.2.2.1.bx.keep G2.out).c 2 (x := .slice p1 L.length q1) rfl; have fb0 := (H8.out.2.1.bx.keep G2.out).c 0 (x := .int .i64 u) rfl; have fb1 := (H8.out.2.1.bx.keep G2.out).c 1 (x := .int .i64 n) rfl; have fb2 := (H8.out.2.1.bx.keep G2.out).c 2 (x := .slice ao l.length co) rfl)) | (go_at_call 19; ((with_reducible refine (flight_at HF.out _ ((H8.out.2.2.2.1.rg.kept G2.out))).mono ?_); rintro e v21 ⟨rfl, hg⟩; have G3 := Lib.hid (show v20.grownBy v21 none from (by first | with_reducible exact hg | with_reducible exact grownBy_trans grownBy_drew hg)); clear hg; have fs0 := (H8.out.2.2.2.1.bx.keep (grownBy_trans G2.out G3.out)).c 0 (x := .int .i64 U) rfl; have fs1 := (H8.out.2.2.2.1.bx.keep (grownBy_trans G2.out G3.out)).c 1 (x := .int .i64 N) rfl; have fs2 := (H8.out.2.2.2.1.bx.keep (grownBy_trans G2.out G3.out)).c 2 (x := .slice p1 L.length q1) rfl; have fb0 := (H8.out.2.1.bx.keep (grownBy_trans G2.out G3.out)).c 0 (x := .int .i64 u) rfl; have fb1 := (H8.out.2.1.bx.keep (grownBy_trans G2.out G3.out)).c 1 (x := .int .i64 n) rfl; have fb2 := (H8.out.2.1.bx.keep (grownBy_trans G2.out G3.out)).c 2 (x := .slice ao l.length co) rfl)) | (go_at_call 19; ((with_reducible refine (flight_at HZ.out _ ((H8.out.2.1.rg.kept (grownBy_trans G2.out G3.out)))).mono ?_); rintro e v22 ⟨rfl, hg⟩; have G4 := Lib.hid (show v21.grownBy v22 none from (by first | with_reducible exact hg | with_reducible exact grownBy_trans grownBy_drew hg)); clear hg; have fs0 := (H8.out.2.2.2.1.bx.keep (grownBy_trans (grownBy_trans G2.out G3.out) G4.out)).c 0 (x := .int .i64 U) rfl; have fs1 := (H8.out.2.2.2.1.bx.keep (grownBy_trans (grownBy_trans G2.out G3.out) G4.out)).c 1 (x := .int .i64 N) rfl; have fs2 := (H8.out.2.2.2.1.bx.keep (grownBy_trans (grownBy_trans G2.out G3.out) G4.out)).c 2 (x := .slice p1 L.length q1) rfl; have fb0 := (H8.out.2.1.bx.keep (grownBy_trans (grownBy_trans G2.out G3.out) G4.out)).c 0 (x := .int .i64 u) rfl; have fb1 := (H8.out.2.1.bx.keep (grownBy_trans (grownBy_trans G2.out G3.out) G4.out)).c 1 (x := .int .i64 n) rfl; have fb2 := (H8.out.2.1.bx.keep (grownBy_trans (grownBy_trans G2.out G3.out) G4.out)).c 2 (x := .slice ao l.length co) rfl)))
          all_goals
            go_wp2_with fail
            go_meet
            first | exact ⟨rfl, grownBy_trans (grownBy_trans G2.out G3.out) G4.out⟩ | (trace_state; fail)
      case rest =>
        obtain ⟨rfl, hg⟩ := hcut
        have H9 := Lib.hid (And.intro (H8.out.1.kept hg) (And.intro (H8.out.2.1.keep hg) (And.intro (H8.out.2.2.1.kept hg) (And.intro (H8.out.2.2.2.1.keep hg) (And.intro (H8.out.2.2.2.2.1.keep hg) (And.intro (H8.out.2.2.2.2.2.1.keep hg) (And.intro (H8.out.2.2.2.2.2.2.1.kept hg) (And.intro (H8.out.2.2.2.2.2.2.2.1.keep hg) (And.intro (H8.out.2.2.2.2.2.2.2.2.1.keep hg) (And.intro (H8.out.2.2.2.2.2.2.2.2.2.1.keep hg) (grownBy_trans (H8.out.2.2.2.2.2.2.2.2.2.2) hg)))))))))))
        clear hg
        generalize hwc : wc = w9 at *
        clear hwc
        cases D2
        · go_wp2_with fail
          go_ret
          exact ⟨rfl, below_new (H9.out.2.2.2.2.2.2.2.2.2.2)⟩
        · obtain ⟨hb2, hu2, hn2, hin, hfl⟩ := ack_facts HR2.out
          obtain ⟨k0, k1, k3⟩ := ack_k HR2.out
          have HIN := Lib.hid hin
          have HB2 := Lib.hid hb2
          have HUN := Lib.hid (And.intro hu2 (And.intro hn2 hfl))
          clear hin hb2 hu2 hn2 hfl
          have s1 : IntKind.i64.wrap (k2 + 1) = k2 + 1 := IntWalk.i64_in _ (by omega)
          have s2 : IntKind.i64.wrap (k2 + 60) = k2 + 60 := IntWalk.i64_in _ (by omega)
          obtain ⟨mn, hmn⟩ : ∃ mn : Int, mn = if m2 < k2 + 60 then m2 else k2 + 60 := ⟨_, rfl⟩
          have hmn2 : mn ≤ k2 + 60 := by rw [hmn]; split <;> omega
          have HMN := Lib.hid hmn
          clear hmn
          go_wp2_with fail
          go_loopw [16] (fun p wr => FbRel w9 k2 p wr) (fun p _ => (k2 + 61 - intOf p).toNat)
          case atStart => exact ⟨k2 + 1, rfl, by omega, by omega, World.grownBy.refl _ _⟩
          case round =>
            obtain ⟨p, rfl, hp1, hp2, hg⟩ := hrel
            have HS := Lib.hid hg
            clear hg
            have s3 : IntKind.i64.wrap (p + 1) = p + 1 := IntWalk.i64_in _ (by omega)
            have fc0 := (H9.out.2.2.2.2.2.1.bx.keep HS.out).c 0 (x := .int .i64 y2) rfl
            have fc1 := (H9.out.2.2.2.2.2.1.bx.keep HS.out).c 1 (x := .int .i64 m2) rfl
            have fc2 := (H9.out.2.2.2.2.2.1.bx.keep HS.out).c 2 (x := .slice ao2 l2.length co2) rfl
            have fa0 := (H9.out.2.2.2.2.2.2.2.1.bx.keep HS.out).c 0 (x := .int .i64 U2) rfl
            have fa1 := (H9.out.2.2.2.2.2.2.2.1.bx.keep HS.out).c 1 (x := .int .i64 N2) rfl
            have fa2 := (H9.out.2.2.2.2.2.2.2.1.bx.keep HS.out).c 2 (x := .slice p3 L2.length q3) rfl
            go_upto_region 17 with fail
            go_cut [114] (fun s114 wx => s114 = .bool (decide (p < mn)) ∧ wr = wx)
            case first =>
              rcases Int.lt_trichotomy m2 (k2 + 60) with ht | ht | ht
              · have hz := HMN.out
                rw [if_pos ht] at hz
                subst hz
                go_wp2_with fail
                go_meet
                exact ⟨rfl, rfl⟩
              · have hz := HMN.out
                rw [if_neg (by omega)] at hz
                subst hz
                subst ht
                go_wp2_with fail
                go_meet
                exact ⟨rfl, rfl⟩
              · have hz := HMN.out
                rw [if_neg (by omega)] at hz
                subst hz
                go_wp2_with fail
                go_meet
                exact ⟨rfl, rfl⟩
            case rest =>
              obtain ⟨hs, hw⟩ := hcut
              subst hw
              by_cases hlt : p < mn
              · rw [decide_eq_true hlt] at hs
                subst hs
                have hl2 : p < k2 + 60 := by omega
                go_upto_region 19 with fail
                go_cut [123] (fun s123 wx => s123 = .bool false ∧ wr.grownBy wx none)
                case first =>
                  go_region_with (first | (go_at_call 20; ((with_reducible refine (sacked_as (HIN.out p hp1) _ (H9.out.2.2.2.2.2.2.2.1.rg.kept (grownBy_trans HS.out (by first | with_reducible exact World.grownBy.refl _ _ | with_reducible exact grownBy_drew))) (ack_len HR2.out)).mono ?_); rintro e v20 ⟨rfl, hg⟩; have G2 := Lib.hid (show wr.grownBy v20 none from (by first | with_reducible exact hg | with_reducible exact grownBy_trans grownBy_drew hg)); clear hg; have fc0 := (H9.out.2.2.2.2.2.1.bx.keep (grownBy_trans HS.out G2.out)).c 0 (x := .int .i64 y2) rfl; have fc1 := (H9.out.2.2.2.2.2.1.bx.keep (grownBy_trans HS.out G2.out)).c 1 (x := .int .i64 m2) rfl; have fc2 := (H9.out.2.2.2.2.2.1.bx.keep (grownBy_trans HS.out G2.out)).c 2 (x := .slice ao2 l2.length co2) rfl)) | (go_at_call 20; ((with_reducible refine (sacked_as (l := l2) (p := p) rfl _ (H9.out.2.2.2.2.2.1.rg.kept (grownBy_trans HS.out G2.out)) (by have := HL2.out; omega)).mono ?_); rintro e v21 ⟨rfl, hg⟩; have G3 := Lib.hid (show v20.grownBy v21 none from (by first | with_reducible exact hg | with_reducible exact grownBy_trans grownBy_drew hg)); clear hg)))
                  all_goals
                    go_wp2_with fail
                    go_meet
                    first | exact ⟨rfl, grownBy_trans G2.out G3.out⟩ | exact ⟨by simp, grownBy_trans G2.out G3.out⟩ | (trace_state; fail)
                case rest =>
                  obtain ⟨rfl, hg⟩ := hcut
                  have HW := Lib.hid (grownBy_trans HS.out hg)
                  clear hg
                  go_wp2_with fail
                  go_roundw
                  case rel => exact ⟨p + 1, rfl, by omega, by omega, HW.out⟩
                  case measure => simp [intOf]; omega
              · rw [decide_eq_false hlt] at hs
                subst hs
                have e1 : (U2 == k2) = true := by rw [HUN.out.1]; simp
                have e2 : (N2 == m2) = true := by rw [HUN.out.2.1]; simp
                have e3 : flightL U2 N2 L2 ≤ m2 - k2 := HUN.out.2.2
                have e4 : IntKind.i64.wrap (m2 - k2) = m2 - k2 := IntWalk.i64_in _ (by omega)
                have e5 : decide (flightL U2 N2 L2 ≤ m2 - k2) = true := decide_eq_true e3
                go_upto_region 21 with fail
                go_cut [2] (fun s2 wx => s2 = .bool true ∧ wr.grownBy wx none)
                case first =>
                  go_region_with (first | (go_at_call 17; ((with_reducible refine (bd_yes_impl HB2.out _ (H9.out.2.2.2.2.2.2.2.1.rg.kept (grownBy_trans HS.out (by first | with_reducible exact World.grownBy.refl _ _ | with_reducible exact grownBy_drew)))).mono ?_); rintro e v20 ⟨rfl, hg⟩; have G2 := Lib.hid (show wr.grownBy v20 none from (by first | with_reducible exact hg | with_reducible exact grownBy_trans grownBy_drew hg)); clear hg; have fc0 := (H9.out.2.2.2.2.2.1.bx.keep (grownBy_trans HS.out G2.out)).c 0 (x := .int .i64 y2) rfl; have fc1 := (H9.out.2.2.2.2.2.1.bx.keep (grownBy_trans HS.out G2.out)).c 1 (x := .int .i64 m2) rfl; have fc2 := (H9.out.2.2.2.2.2.1.bx.keep (grownBy_trans HS.out G2.out)).c 2 (x := .slice ao2 l2.length co2) rfl; have fa0 := (H9.out.2.2.2.2.2.2.2.1.bx.keep (grownBy_trans HS.out G2.out)).c 0 (x := .int .i64 U2) rfl; have fa1 := (H9.out.2.2.2.2.2.2.2.1.bx.keep (grownBy_trans HS.out G2.out)).c 1 (x := .int .i64 N2) rfl; have fa2 := (H9.out.2.2.2.2.2.2.2.1.bx.keep (grownBy_trans HS.out G2.out)).c 2 (x := .slice p3 L2.length q3) rfl)) | (go_at_call 19; ((with_reducible refine (flight_at (u := U2) (n := N2) (l := L2) rfl _ (H9.out.2.2.2.2.2.2.2.1.rg.kept (grownBy_trans HS.out G2.out))).mono ?_); rintro e v21 ⟨rfl, hg⟩; have G3 := Lib.hid (show v20.grownBy v21 none from (by first | with_reducible exact hg | with_reducible exact grownBy_trans grownBy_drew hg)); clear hg; have fc0 := (H9.out.2.2.2.2.2.1.bx.keep (grownBy_trans HS.out (grownBy_trans G2.out G3.out))).c 0 (x := .int .i64 y2) rfl; have fc1 := (H9.out.2.2.2.2.2.1.bx.keep (grownBy_trans HS.out (grownBy_trans G2.out G3.out))).c 1 (x := .int .i64 m2) rfl; have fc2 := (H9.out.2.2.2.2.2.1.bx.keep (grownBy_trans HS.out (grownBy_trans G2.out G3.out))).c 2 (x := .slice ao2 l2.length co2) rfl; have fa0 := (H9.out.2.2.2.2.2.2.2.1.bx.keep (grownBy_trans HS.out (grownBy_trans G2.out G3.out))).c 0 (x := .int .i64 U2) rfl; have fa1 := (H9.out.2.2.2.2.2.2.2.1.bx.keep (grownBy_trans HS.out (grownBy_trans G2.out G3.out))).c 1 (x := .int .i64 N2) rfl; have fa2 := (H9.out.2.2.2.2.2.2.2.1.bx.keep (grownBy_trans HS.out (grownBy_trans G2.out G3.out))).c 2 (x := .slice p3 L2.length q3) rfl)))
                  all_goals
                    go_wp2_with fail
                    go_meet
                    first | exact ⟨rfl, grownBy_trans G2.out G3.out⟩ | exact ⟨by simp [e1, e2, e3, e5], grownBy_trans G2.out G3.out⟩ | (trace_state; fail)
                case rest =>
                  obtain ⟨rfl, hg⟩ := hcut
                  go_wp2_with fail
                  go_ret
                  exact ⟨rfl, below_new (grownBy_trans (H9.out.2.2.2.2.2.2.2.2.2.2) (grownBy_trans HS.out hg))⟩

set_option maxRecDepth 100000 in
theorem lifted (os : Os) (started : os.Started) (H : Type) (enc : TypeId × Value → H) :
    ReturnsInHanded {} Try.checked os 3 .any (Rows.fnBoardsSpec.pre6 enc Try.prog Try.f3 Rows.fnBoardsRow.domain false) (Rows.fnBoardsSpec.post enc Try.prog Try.f3 false true false false) := by
  refine returnsInHanded_of_change (C := Try.checked) own started (by kernel_rfl) Try.func3
    (ChangeSpec.witness6 (enc := enc) (C := Try.checked) false ⟨#[], #[.slice none 0 0], []⟩ 8 (by kernel_rfl) (by kernel_rfl) (by kernel_rfl) (by kernel_rfl)) ?_
  intro W base args ds gs before hval0 hW hcnd _
  have hval : ∀ (j : Nat) t v, Try.f3.params[j]? = some t → args[j]? = some v → Value.okWide Try.prog W .any base t v := hval0
  have hW' := hW
  obtain ⟨p, q, hA0, hV, rfl, hfz, hnd⟩ := hW
  have hA : DataW.TrodAll enc Try.prog W 0 (fun _ => true) true Try.f3.params.toList args.toList ds p := hA0
  rw [Try.params3] at hA hval
  obtain ⟨v0, vs0, d0, ds0, p0, q0, hargs, rfl, rfl, h0, r0⟩ := trodAll_cons hA
  obtain ⟨rfl, rfl, rfl⟩ := trodAll_nil r0
  obtain rfl : args = #[v0] := by cases args; simp_all
  obtain ⟨rfl, rfl⟩ := trodVars_none hV
  have k0 := h0
  have lt0 : ∀ x ∈ p0, x.block < W.heap.size := by obtain ⟨m, hm⟩ := k0; exact DataW.trod_lt m _ _ _ hm
  obtain ⟨a0, len0, cap0, rfl⟩ := okWide_slice Try.underlying22 (hval 0 22 v0 rfl rfl)
  obtain ⟨z0, w0⟩ : ∃ zs, IsRow .u8 W a0 len0 cap0 zs := by
    obtain ⟨fuel, hf⟩ := h0
    rcases open_ints Try.underlying22 Try.underlying5 (by kernel_rfl) hf with ⟨hcs, _⟩ | ⟨x, l, c, zs, hcs, _, hl, hm, hz, _, hcell, hwz⟩
    · simp [Value.cells] at hcs
      obtain ⟨rfl, rfl, rfl⟩ := hcs
      exact ⟨[], .inl ⟨rfl, rfl, rfl, rfl⟩⟩
    · simp [Value.cells] at hcs
      obtain ⟨rfl, rfl, rfl⟩ := hcs
      exact ⟨zs, .inr ⟨_, rfl, hl, hm, by simpa using hz, hcell, hwz⟩⟩
  clear hA0 hval0
  refine (walk a0 len0 cap0 z0 W w0).mono fun e W' ⟨he, bel⟩ => ?_
  subst he
  exact ⟨_, rfl, _, _, _, [], _, [], hW', trodAll_mk1 (shut_bool Try.underlying4 _), (trodAll_cons_mk (Below.trod laidOut (by kernel_rfl) (of_decide_eq_true (by kernel_rfl)) k0 bel lt0) trodAll_mk0), rfl, bel.frame _, fun h => by cases h⟩

theorem over : Rows.fnBoardsRow.holds Try.pinned (OpenSpec.ofChange Rows.fnBoardsSpec) :=
  OpenClaim.holds_of_wide 3 Try.f3 rfl rfl rfl rfl rfl rfl rfl ⟨rfl, rfl, rfl, rfl, rfl⟩ rfl rfl rfl rfl rfl (by kernel_rfl) Try.func3 (by kernel_rfl)
    (of_decide_eq_true (by kernel_rfl)) (by unfold Func.isWrapper; first | (rw [if_pos (by decide +kernel)]; kernel_rfl) | (rw [if_neg (by decide +kernel)]; exact ⟨rfl, rfl⟩))
    (fun os started H enc _ => lifted os started H enc)

theorem proved : Rows.FnBoardsSaid := over
end Go.Proofs.Ytedgfiagefhahaa.fnBoards
