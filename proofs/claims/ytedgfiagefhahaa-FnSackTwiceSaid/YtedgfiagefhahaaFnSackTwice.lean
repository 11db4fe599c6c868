/- For every code the law FnSackTwice answers true and leaves its argument as it was; no condition. -/
import Derived.Test.YtedgfiagefhahaaRows
import Derived.Test.YtedgfiagefhahaaDraw
import Derived.Test.YtedgfiagefhahaaBdB
import Derived.Test.YtedgfiagefhahaaBdI
import Derived.Test.YtedgfiagefhahaaBdU
import Derived.WalkKit
import Derived.ProofKit
import Derived.OpenShut
import Derived.ShutString
import Derived.ChangeOld
import Derived.Below
import Derived.Lib.SmallJoins
namespace Go.Proofs.Ytedgfiagefhahaa.fnSackTwice
open Go.ChangeShapes Go.WideShapes Go.ChangeAt Go.RowKit Go.Joins
open Go.ChangeMaps (open_string shut_string)
set_option linter.unusedVariables false

theorem own : ownKnob Try.prog.godebug = none := by kernel_rfl
theorem laidOut : laidOutB Try.prog = true := by kernel_rfl


def IsRow (k : IntKind) (w : World) (a : Option Addr) (len cap : Nat) (zs : List Int) : Prop :=
  (a = none ∧ len = 0 ∧ cap = 0 ∧ zs = []) ∨
  ∃ x, a = some x ∧ len ≤ cap ∧ cap ≤ maxLen ∧ zs.length = cap ∧ (∀ i, i < zs.length → w.cell? (x.add i) = some (.int k (zs.getD i 0))) ∧ ∀ n ∈ zs, (Lit.int k n).wf = true

structure OwR (w : World) (B : Nat) (a : Option Addr) (c : Nat) (l : List Rg) : Prop where
  own : OwnRg w B a c l
theorem OwR.kept {w w2 : World} {B : Nat} {a : Option Addr} {c : Nat} {l : List Rg} (h : OwR w B a c l) (hg : w.grownBy w2 none) : OwR w2 B a c l := ⟨own_kept h.own hg⟩
theorem sack_len {u n U N : Int} {l ms L : List Rg} {D : Bool} (h : sackL u n l ms = (U, N, L, D)) : L.length ≤ 1048576 := by
  have k := sackL_len u n l ms
  rw [h] at k
  exact Nat.le_trans k (by decide)
theorem flight_at {u n x : Int} {a : Option Addr} {c : Nat} {l : List Rg} (hf : flightL u n l = x) (W : World) (h : RgAt W a l) : Calls Try.prog 19 #[bdV u n a l.length c] W fun e w' => e = .returned (.int .i64 x) ∧ W.grownBy w' none := by
  have k := flight_impl u n a c l W h
  rw [hf] at k
  exact k
theorem rg_sub {W : World} {b j : Nat} {t : List Rg} (h : RgAt W (some ⟨b, 0, none⟩) t) (hj : j < t.length) : RgAt W (some ⟨b, j * 2, none⟩) [t[j]] := by
  rcases h with h | ⟨b2, off, he, hb, hc⟩
  · rw [h] at hj
    simp at hj
  · cases he
    obtain ⟨c0, c1⟩ := hc j hj
    rw [Nat.zero_add] at c0 c1
    refine .inr ⟨_, _, rfl, hb, fun i hi => ?_⟩
    obtain rfl : i = 0 := by simpa using hi
    simpa using ⟨c0, c1⟩
def TwRel (w : World) (B C : Nat) (u n : Int) (l t : List Rg) (i : Value) (wr : World) : Prop :=
  ∃ (j : Nat) (a : Option Addr) (c : Nat), j ≤ t.length ∧ i = .int .i64 (j : Int) ∧ w.grownBy wr none ∧ Bx wr C 26 #[.int .i64 u, .int .i64 n, .slice a (sackF u n l (t.take j)).length c] ∧ OwnRg wr B a c (sackF u n l (t.take j)) ∧ ∀ g, Value.ownBlock (.slice a (sackF u n l (t.take j)).length c) = some g → g ≠ C
structure TN (W : World) (Z : Nat) (u n : Int) (a : Option Addr) (c : Nat) (L : List Rg) (wx : World) : Prop where
  g : W.grownBy wx none
  bx : Bx wx Z 26 #[.int .i64 u, .int .i64 n, .slice a L.length c]
  row : OwnRg wx W.heap.size a c L
  lz : W.heap.size ≤ Z
theorem tn_to {W X V : World} {a : Option Addr} {c : Nat} {L : List Rg} (hg : X.grownBy V none) (ho : OwnRg V X.heap.size a c L) (hx : W.grownBy X none) : W.grownBy X none ∧ X.grownBy V none ∧ OwnRg V X.heap.size a c L := ⟨hx, hg, ho⟩
theorem TN.new {W X V : World} {u n : Int} {a : Option Addr} {c : Nat} {L : List Rg} (hx : W.grownBy X none) (hg : X.grownBy V none) (ho : OwnRg V X.heap.size a c L) : TN W V.heap.size u n a c L (V.alloc (.cells #[.int .i64 u, .int .i64 n, .slice a L.length c] 26)) :=
  ⟨gA (grownBy_trans hx hg) _, Bx.new _ _ _, own_base (own_kept ho (World.grownBy_alloc _ _ _)) hx.size, Nat.le_trans hx.size hg.size⟩
theorem TN.old {W X V : World} {Z : Nat} {u n : Int} {a : Option Addr} {c : Nat} {L : List Rg} {x0 x1 x2 : Value} (hx : W.grownBy X none) (hg : X.grownBy V none) (ho : OwnRg V X.heap.size a c L) (hz : Bx V Z 26 #[x0, x1, x2]) (lz : W.heap.size ≤ Z) (zl : Z < X.heap.size) : TN W Z u n a c L (((V.setCell ⟨Z, 0, none⟩ (.int .i64 u)).setCell ⟨Z, 1, none⟩ (.int .i64 n)).setCell ⟨Z, 2, none⟩ (.slice a L.length c)) := by
  have hf : ∀ g, Value.ownBlock (.slice a L.length c) = some g → g ≠ Z := fun g hv => by have := own_in ho g hv; omega
  exact ⟨gS (gS (gS (grownBy_trans hx hg) lz _ _) lz _ _) lz _ _, set3 hz _ _ _, own_base (own_far (own_far (own_far ho (grownBy_set V Z 0 _) (fun g hv => by simp; exact hf g hv)) (grownBy_set _ Z 1 _) (fun g hv => by simp; exact hf g hv)) (grownBy_set _ Z 2 _) (fun g hv => by simp; exact hf g hv)) hx.size, lz⟩
/-- The next board taken over into its place. -/
theorem TN.take {w W wx : World} {B C Z : Nat} {u n : Int} {a : Option Addr} {c : Nat} {L : List Rg} {x0 x1 x2 : Value} (k : TN W Z u n a c L wx) (hC : w.heap.size ≤ C) (hg : w.grownBy W none) (hb : Bx W C 26 #[x0, x1, x2]) (hB : B ≤ W.heap.size) : w.grownBy (((wx.setCell ⟨C, 0, none⟩ (.int .i64 u)).setCell ⟨C, 1, none⟩ (.int .i64 n)).setCell ⟨C, 2, none⟩ (.slice a L.length c)) none ∧ Bx (((wx.setCell ⟨C, 0, none⟩ (.int .i64 u)).setCell ⟨C, 1, none⟩ (.int .i64 n)).setCell ⟨C, 2, none⟩ (.slice a L.length c)) C 26 #[.int .i64 u, .int .i64 n, .slice a L.length c] ∧ OwnRg (((wx.setCell ⟨C, 0, none⟩ (.int .i64 u)).setCell ⟨C, 1, none⟩ (.int .i64 n)).setCell ⟨C, 2, none⟩ (.slice a L.length c)) B a c L ∧ ∀ g, Value.ownBlock (.slice a L.length c) = some g → g ≠ C := by
  have hl := hb.lt
  have hf : ∀ g, Value.ownBlock (.slice a L.length c) = some g → g ≠ C := fun g hv => by have := own_in k.row g hv; omega
  exact ⟨gS (gS (gS (grownBy_trans hg k.g) hC _ _) hC _ _) hC _ _, set3 (hb.keep k.g) _ _ _, own_base (own_far (own_far (own_far k.row (grownBy_set wx C 0 _) (fun g hv => by simp; exact hf g hv)) (grownBy_set _ C 1 _) (fun g hv => by simp; exact hf g hv)) (grownBy_set _ C 2 _) (fun g hv => by simp; exact hf g hv)) hB, hf⟩

set_option maxRecDepth 100000 in
set_option maxHeartbeats 16000000 in
theorem walk (a0 : Option Addr) (len0 cap0 : Nat) (z0 : List Int) (w : World) (w0 : IsRow .u8 w a0 len0 cap0 z0) :
    Calls Try.prog 6 #[.slice a0 len0 cap0] w fun e w' => e = .returned (.bool true) ∧ Below w.heap.size w w' := by
  have hc := code_of w0
  clear w0
  have HC := Lib.hid hc
  clear hc
  by_cases hbig : 1048576 < len0
  · go_enter Try.func6, Try.ntmps6
    go_wp2_with (go_at_call 8; refine (big_any _ _ _ _).mono ?_; rintro e w' ⟨rfl, rfl⟩)
    go_ret
    exact ⟨rfl, Below.refl _ _⟩
  · go_enter Try.func6, Try.ntmps6
    go_wp2_with (go_at_call 8; refine (big_any _ _ _ _).mono ?_; rintro e w' ⟨rfl, rfl⟩)
    have H0 := Lib.hid (And.intro HC.out (World.grownBy.refl w none))
    go_wp2_with fail
    refine (draw_bsack _ _ _ _ H0.out.1).mono ?_
    rintro e v0 ⟨u, n, ao, co, l, tb, tc, t, rfl, htl, htc, htm, hd, hto⟩
    have hg := hd.g
    have hrow := hd.row.at
    have hro := own_rowOk hd.row
    have HL1 := Lib.hid hd.ll
    have HF1 := Lib.hid hd.fi
    have hrt := OwnRg.at hto
    have HTL := Lib.hid (And.intro htl (And.intro htc htm))
    have how := OwR.mk hd.row
    have HFA := Lib.hid (fun g hg => (own_in hd.row g hg).2)
    have HW0 := Lib.hid hd.g.size
    clear hd hto htl htc htm
    have H1 := Lib.hid (And.intro ((H0.out.1.kept hg).kept (World.grownBy_alloc v0 (.cells #[.int .i64 u, .int .i64 n, .slice ao l.length co] 26) none)) (And.intro (BB.new v0 (u := u) (n := n) (c := co) hrow) (And.intro ((hro).kept (World.grownBy_alloc v0 (.cells #[.int .i64 u, .int .i64 n, .slice ao l.length co] 26) none)) (And.intro ((hrt).kept (World.grownBy_alloc v0 (.cells #[.int .i64 u, .int .i64 n, .slice ao l.length co] 26) none)) (And.intro ((how).kept (World.grownBy_alloc v0 (.cells #[.int .i64 u, .int .i64 n, .slice ao l.length co] 26) none)) (gA (grownBy_trans (H0.out.2) hg) (.cells #[.int .i64 u, .int .i64 n, .slice ao l.length co] 26)))))))
    clear hg hrow hro hrt how
    go_upto_region 4 with fail
    generalize v0.heap.size = Bb at *
    generalize v0.alloc (.cells #[.int .i64 u, .int .i64 n, .slice ao l.length co] 26) = v0a at *
    obtain ⟨⟨U, N, L, D⟩, hR⟩ : ∃ R, R = sackL u n l t := ⟨_, rfl⟩
    have HR := Lib.hid hR.symm
    clear hR
    have bb_0 := H1.out.2.1.bx.c 0 (x := .int .i64 u) rfl
    have bb_1 := H1.out.2.1.bx.c 1 (x := .int .i64 n) rfl
    have bb_2 := H1.out.2.1.bx.c 2 (x := .slice ao l.length co) rfl
    have bb_l := H1.out.2.1.bx.lt
    go_wp2_with fail
    refine ((sack_impl u n ao co l _ tc t _ H1.out.2.2.1 H1.out.2.2.2.1 (by have := HTL.out.1; omega)).mono fun _ _ hh => bd_four HR.out hh).mono ?_
    rintro e v1 ⟨p1, q1, rfl, hg, ho⟩
    have hrow := ho.at
    have hrn := own_rowOk ho
    clear ho
    have H2 := Lib.hid (And.intro ((H1.out.1.kept hg).kept (World.grownBy_alloc v1 (.cells #[.int .i64 U, .int .i64 N, .slice p1 L.length q1] 26) none)) (And.intro ((H1.out.2.1.keep hg).keep (World.grownBy_alloc v1 (.cells #[.int .i64 U, .int .i64 N, .slice p1 L.length q1] 26) none)) (And.intro ((H1.out.2.2.1.kept hg).kept (World.grownBy_alloc v1 (.cells #[.int .i64 U, .int .i64 N, .slice p1 L.length q1] 26) none)) (And.intro ((H1.out.2.2.2.1.kept hg).kept (World.grownBy_alloc v1 (.cells #[.int .i64 U, .int .i64 N, .slice p1 L.length q1] 26) none)) (And.intro ((H1.out.2.2.2.2.1.kept hg).kept (World.grownBy_alloc v1 (.cells #[.int .i64 U, .int .i64 N, .slice p1 L.length q1] 26) none)) (And.intro (BB.new v1 (u := U) (n := N) (c := q1) hrow) (And.intro ((hrn).kept (World.grownBy_alloc v1 (.cells #[.int .i64 U, .int .i64 N, .slice p1 L.length q1] 26) none)) (gA (grownBy_trans (H1.out.2.2.2.2.2) hg) (.cells #[.int .i64 U, .int .i64 N, .slice p1 L.length q1] 26)))))))))
    clear hg hrow hrn
    clear bb_0 bb_1 bb_2 bb_l
    go_upto_region 5 with fail
    generalize v1.heap.size = Bn at *
    generalize v1.alloc (.cells #[.int .i64 U, .int .i64 N, .slice p1 L.length q1] 26) = v1a at *
    have bb_0 := H2.out.2.1.bx.c 0 (x := .int .i64 u) rfl
    have bb_1 := H2.out.2.1.bx.c 1 (x := .int .i64 n) rfl
    have bb_2 := H2.out.2.1.bx.c 2 (x := .slice ao l.length co) rfl
    have bb_l := H2.out.2.1.bx.lt
    go_wp2_with fail
    refine ((sack_spec u n ao co l _ tc t _ H2.out.2.2.1 (by have := HL1.out; omega) H2.out.2.2.2.1 (by have := HTL.out.1; omega)).mono fun _ _ hh => bd_four HR.out hh).mono ?_
    rintro e v2 ⟨p2, q2, rfl, hg, ho⟩
    have hrow := ho.at
    clear ho
    have H3 := Lib.hid (And.intro ((H2.out.1.kept hg).kept (World.grownBy_alloc v2 (.cells #[.int .i64 U, .int .i64 N, .slice p2 L.length q2] 26) none)) (And.intro ((H2.out.2.1.keep hg).keep (World.grownBy_alloc v2 (.cells #[.int .i64 U, .int .i64 N, .slice p2 L.length q2] 26) none)) (And.intro ((H2.out.2.2.1.kept hg).kept (World.grownBy_alloc v2 (.cells #[.int .i64 U, .int .i64 N, .slice p2 L.length q2] 26) none)) (And.intro ((H2.out.2.2.2.1.kept hg).kept (World.grownBy_alloc v2 (.cells #[.int .i64 U, .int .i64 N, .slice p2 L.length q2] 26) none)) (And.intro ((H2.out.2.2.2.2.1.kept hg).kept (World.grownBy_alloc v2 (.cells #[.int .i64 U, .int .i64 N, .slice p2 L.length q2] 26) none)) (And.intro ((H2.out.2.2.2.2.2.1.keep hg).keep (World.grownBy_alloc v2 (.cells #[.int .i64 U, .int .i64 N, .slice p2 L.length q2] 26) none)) (And.intro ((H2.out.2.2.2.2.2.2.1.kept hg).kept (World.grownBy_alloc v2 (.cells #[.int .i64 U, .int .i64 N, .slice p2 L.length q2] 26) none)) (And.intro (BB.new v2 (u := U) (n := N) (c := q2) hrow) (gA (grownBy_trans (H2.out.2.2.2.2.2.2.2) hg) (.cells #[.int .i64 U, .int .i64 N, .slice p2 L.length q2] 26))))))))))
    clear hg hrow
    clear bb_0 bb_1 bb_2 bb_l
    go_upto_region 6 with fail
    generalize v2.heap.size = Bw at *
    generalize v2.alloc (.cells #[.int .i64 U, .int .i64 N, .slice p2 L.length q2] 26) = v2a at *
    cases D
    · have bn_0 := H3.out.2.2.2.2.2.1.bx.c 0 (x := .int .i64 U) rfl
      have bn_1 := H3.out.2.2.2.2.2.1.bx.c 1 (x := .int .i64 N) rfl
      have bn_2 := H3.out.2.2.2.2.2.1.bx.c 2 (x := .slice p1 L.length q1) rfl
      have bn_l := H3.out.2.2.2.2.2.1.bx.lt
      have bw_0 := H3.out.2.2.2.2.2.2.2.1.bx.c 0 (x := .int .i64 U) rfl
      have bw_1 := H3.out.2.2.2.2.2.2.2.1.bx.c 1 (x := .int .i64 N) rfl
      have bw_2 := H3.out.2.2.2.2.2.2.2.1.bx.c 2 (x := .slice p2 L.length q2) rfl
      have bw_l := H3.out.2.2.2.2.2.2.2.1.bx.lt
      go_wp2_with fail
      refine (same_board U N p1 p2 q1 q2 L _ (H3.out.2.2.2.2.2.1.rg) (H3.out.2.2.2.2.2.2.2.1.rg) (sack_len HR.out)).mono ?_
      rintro e v3 ⟨rfl, hg⟩
      have H4 := Lib.hid (And.intro (H3.out.1.kept hg) (And.intro (H3.out.2.1.keep hg) (And.intro (H3.out.2.2.1.kept hg) (And.intro (H3.out.2.2.2.1.kept hg) (And.intro (H3.out.2.2.2.2.1.kept hg) (And.intro (H3.out.2.2.2.2.2.1.keep hg) (And.intro (H3.out.2.2.2.2.2.2.1.kept hg) (And.intro (H3.out.2.2.2.2.2.2.2.1.keep hg) (grownBy_trans (H3.out.2.2.2.2.2.2.2.2) hg)))))))))
      clear hg
      clear bn_0 bn_1 bn_2 bn_l bw_0 bw_1 bw_2 bw_l
      have bn_0 := H4.out.2.2.2.2.2.1.bx.c 0 (x := .int .i64 U) rfl
      have bn_1 := H4.out.2.2.2.2.2.1.bx.c 1 (x := .int .i64 N) rfl
      have bn_2 := H4.out.2.2.2.2.2.1.bx.c 2 (x := .slice p1 L.length q1) rfl
      have bn_l := H4.out.2.2.2.2.2.1.bx.lt
      have bw_0 := H4.out.2.2.2.2.2.2.2.1.bx.c 0 (x := .int .i64 U) rfl
      have bw_1 := H4.out.2.2.2.2.2.2.2.1.bx.c 1 (x := .int .i64 N) rfl
      have bw_2 := H4.out.2.2.2.2.2.2.2.1.bx.c 2 (x := .slice p2 L.length q2) rfl
      have bw_l := H4.out.2.2.2.2.2.2.2.1.bx.lt
      go_wp2_with fail
      refine (same_board U N p1 p2 q1 q2 L _ (H4.out.2.2.2.2.2.1.rg) (H4.out.2.2.2.2.2.2.2.1.rg) (sack_len HR.out)).mono ?_
      rintro e v4 ⟨rfl, hg⟩
      have H5 := Lib.hid (And.intro (H4.out.1.kept hg) (And.intro (H4.out.2.1.keep hg) (And.intro (H4.out.2.2.1.kept hg) (And.intro (H4.out.2.2.2.1.kept hg) (And.intro (H4.out.2.2.2.2.1.kept hg) (And.intro (H4.out.2.2.2.2.2.1.keep hg) (And.intro (H4.out.2.2.2.2.2.2.1.kept hg) (And.intro (H4.out.2.2.2.2.2.2.2.1.keep hg) (grownBy_trans (H4.out.2.2.2.2.2.2.2.2) hg)))))))))
      clear hg
      clear bn_0 bn_1 bn_2 bn_l bw_0 bw_1 bw_2 bw_l
      go_wp2_with fail
      go_ret
      exact ⟨rfl, below_new (H5.out.2.2.2.2.2.2.2.2)⟩
    · have bn_0 := H3.out.2.2.2.2.2.1.bx.c 0 (x := .int .i64 U) rfl
      have bn_1 := H3.out.2.2.2.2.2.1.bx.c 1 (x := .int .i64 N) rfl
      have bn_2 := H3.out.2.2.2.2.2.1.bx.c 2 (x := .slice p1 L.length q1) rfl
      have bn_l := H3.out.2.2.2.2.2.1.bx.lt
      have bw_0 := H3.out.2.2.2.2.2.2.2.1.bx.c 0 (x := .int .i64 U) rfl
      have bw_1 := H3.out.2.2.2.2.2.2.2.1.bx.c 1 (x := .int .i64 N) rfl
      have bw_2 := H3.out.2.2.2.2.2.2.2.1.bx.c 2 (x := .slice p2 L.length q2) rfl
      have bw_l := H3.out.2.2.2.2.2.2.2.1.bx.lt
      go_wp2_with fail
      refine (same_board U N p1 p2 q1 q2 L _ (H3.out.2.2.2.2.2.1.rg) (H3.out.2.2.2.2.2.2.2.1.rg) (sack_len HR.out)).mono ?_
      rintro e v3 ⟨rfl, hg⟩
      have H4 := Lib.hid (And.intro (H3.out.1.kept hg) (And.intro (H3.out.2.1.keep hg) (And.intro (H3.out.2.2.1.kept hg) (And.intro (H3.out.2.2.2.1.kept hg) (And.intro (H3.out.2.2.2.2.1.kept hg) (And.intro (H3.out.2.2.2.2.2.1.keep hg) (And.intro (H3.out.2.2.2.2.2.2.1.kept hg) (And.intro (H3.out.2.2.2.2.2.2.2.1.keep hg) (grownBy_trans (H3.out.2.2.2.2.2.2.2.2) hg)))))))))
      clear hg
      clear bn_0 bn_1 bn_2 bn_l bw_0 bw_1 bw_2 bw_l
      have hag := sack_again (show sackL u n l t = (u, n, L, true) by have h := sack_facts HR.out; rw [HR.out, h.2.2.2.1, h.2.2.2.2.1])
      obtain ⟨hbl, _, hbL, hU, hN, hL, _, hfl⟩ := sack_facts HR.out
      subst hU hN
      have HAG := Lib.hid hag
      have HST := Lib.hid (fun j hj => sack_step (ms := t) hbl (by have := HF1.out.1; have := HTL.out.1; omega) j hj)
      have HLL := Lib.hid hL
      have HFL := Lib.hid (decide_eq_true hfl)
      have HLN := Lib.hid (show L.length ≤ 40 from hbL.2.2.2.1)
      clear hag hbl hbL hL hfl
      have bb_0 := H4.out.2.1.bx.c 0 (x := .int .i64 U) rfl
      have bb_1 := H4.out.2.1.bx.c 1 (x := .int .i64 N) rfl
      have bb_2 := H4.out.2.1.bx.c 2 (x := .slice ao l.length co) rfl
      have bb_l := H4.out.2.1.bx.lt
      have hCl : Bb < v3.heap.size := bb_l
      go_upto_region 9 with fail
      obtain ⟨C, hC⟩ : ∃ C, v3.heap.size = C := ⟨_, rfl⟩
      have HCC := Lib.hid hC
      have h0 : TwRel v3 (w.heap.size) v3.heap.size U N l t (.int .i64 ((0 : Nat) : Int)) (v3.alloc (.cells #[.int .i64 U, .int .i64 N, .slice ao l.length co] 26)) := ⟨0, ao, co, Nat.zero_le _, rfl, World.grownBy_alloc _ _ _, Bx.new _ _ _, by rw [List.take_zero]; exact ((H4.out.2.2.2.2.1).kept (World.grownBy_alloc _ _ _)).own, fun g hg => by rw [List.take_zero] at hg; have := HFA.out g hg; omega⟩
      rw [hC] at h0
      rw [hC]
      have HH0 := Lib.hid h0
      clear bb_0 bb_1 bb_2 bb_l
      clear h0 hCl hC
      go_wp2_with fail
      go_loopw [10] (fun i wr => TwRel v3 w.heap.size C U N l t i wr) (fun i _ => t.length - (intOf i).toNat)
      case atStart => exact HH0.out
      case round =>
        obtain ⟨j, a9, c9, hj, rfl, hg, hb, ho, hf⟩ := hrel
        obtain ⟨M, hM⟩ : ∃ M, M = sackF U N l (t.take j) := ⟨_, rfl⟩
        rw [← hM] at hb ho hf
        have HM := Lib.hid hM
        clear hM
        have HG0 := Lib.hid hg
        have HBC := Lib.hid hb
        have HOC := Lib.hid (And.intro ho hf)
        have H5 := Lib.hid (And.intro (H4.out.1.kept hg) (And.intro (H4.out.2.1.keep hg) (And.intro (H4.out.2.2.1.kept hg) (And.intro (H4.out.2.2.2.1.kept hg) (And.intro (H4.out.2.2.2.2.1.kept hg) (And.intro (H4.out.2.2.2.2.2.1.keep hg) (And.intro (H4.out.2.2.2.2.2.2.1.kept hg) (And.intro (H4.out.2.2.2.2.2.2.2.1.keep hg) (grownBy_trans (H4.out.2.2.2.2.2.2.2.2) hg)))))))))
        clear hg hb ho hf
        by_cases hlt : j < t.length
        · have hj1 : (j : Int) < (t.length : Int) := by omega
          have hj0 : (0 : Int) ≤ (j : Int) := by omega
          have hj2 : (t.length : Int) ≤ 2 := by have := HTL.out.1; omega
          have hj3 : (t.length : Int) ≤ (tc : Int) := by have := HTL.out.2.1; omega
          have hj4 : (tc : Int) ≤ 9223372036854775807 := by have := HTL.out.2.2; unfold maxLen at this; omega
          have s1 : IntKind.i64.wrap ((j : Int) + 1) = (j : Int) + 1 := IntWalk.i64_in _ (by omega)
          have hsl : ((j : Int) + 1) - (j : Int) = 1 := by omega
          have hst := HST.out j hlt
          rw [← HM.out] at hst
          have HS := Lib.hid hst
          clear hst
          have cc_0 := HBC.out.c 0 (x := .int .i64 U) rfl
          have cc_1 := HBC.out.c 1 (x := .int .i64 N) rfl
          have cc_2 := HBC.out.c 2 (x := .slice a9 M.length c9) rfl
          have cc_l := HBC.out.lt
          go_upto_region 12 with fail
          go_cut [11, 12] (fun s11 s12 wx => ∃ (Z : Nat) (a3 : Option Addr) (c3 : Nat), s11 = .pointer (some ⟨Z, 0, none⟩) ∧ s12 = .bool true ∧ TN wr Z U N a3 c3 (sackF U N l (t.take (j + 1))) wx)
          case first =>
            go_region_with (first | (go_at_call 22; refine ((sack_impl U N a9 c9 M _ _ [t[j]] _ ?_ ?_ (by simp)).mono fun _ _ hh => bd_four HS.out hh).mono ?_; exact (own_rowOk HOC.out.1).kept (by first | with_reducible exact World.grownBy.refl _ _ | with_reducible exact grownBy_drew | with_reducible exact World.grownBy_alloc _ _ none | with_reducible exact grownBy_trans grownBy_drew (World.grownBy_alloc _ _ none) | with_reducible exact grownBy_trans (World.grownBy_alloc _ _ none) grownBy_drew); exact rg_sub ((H5.out.2.2.2.1.kept (by first | with_reducible exact World.grownBy.refl _ _ | with_reducible exact grownBy_drew | with_reducible exact World.grownBy_alloc _ _ none | with_reducible exact grownBy_trans grownBy_drew (World.grownBy_alloc _ _ none) | with_reducible exact grownBy_trans (World.grownBy_alloc _ _ none) grownBy_drew))) hlt; rintro e w6 ⟨a3, c3, rfl, hg, ho⟩; (first | have vb := Lib.hid ((Bx.new _ 26 #[.int .i64 0, .int .i64 0, .slice none 0 0]).keep hg) | have vb := Lib.hid (((Bx.new _ 26 #[.int .i64 0, .int .i64 0, .slice none 0 0]).keep (grownBy_drew (r := none))).keep hg) | skip); have H6 := Lib.hid (tn_to (W := wr) hg ho (by first | with_reducible exact World.grownBy.refl _ _ | with_reducible exact grownBy_drew | with_reducible exact World.grownBy_alloc _ _ none | with_reducible exact grownBy_trans grownBy_drew (World.grownBy_alloc _ _ none) | with_reducible exact grownBy_trans (World.grownBy_alloc _ _ none) grownBy_drew)); clear hg ho; try (have q0 := vb.out.c 0 (x := .int .i64 0) rfl; have q1 := vb.out.c 1 (x := .int .i64 0) rfl; have q2 := vb.out.c 2 (x := .slice none 0 0) rfl; have qf0 := vb.out.f 0; have qf1 := vb.out.f 1; have qf2 := vb.out.f 2)))
            all_goals
              go_wp2_with fail
              go_meet
              first
                | exact ⟨_, _, _, rfl, rfl, TN.new H6.out.1 H6.out.2.1 H6.out.2.2⟩
                | exact ⟨_, _, _, rfl, rfl, TN.old H6.out.1 H6.out.2.1 H6.out.2.2 vb.out (by first | exact Nat.le_refl _ | (simp; done) | (simp; omega) | omega) (by first | (simp; done) | (simp; omega) | omega)⟩
                | (trace_state; fail)
          case rest =>
            obtain ⟨Z, a3, c3, rfl, rfl, ht⟩ := hcut
            have HT := Lib.hid ht
            clear ht hj1 hj0 hj3 hj4 hsl s1 cc_0 cc_1 cc_2 cc_l
            have s2 : IntKind.i64.wrap ((j : Int) + 1) = (j : Int) + 1 := IntWalk.i64_in _ (by omega)
            have zz_0 := HT.out.bx.c 0 (x := .int .i64 U) rfl
            have zz_1 := HT.out.bx.c 1 (x := .int .i64 N) rfl
            have zz_2 := HT.out.bx.c 2 (x := .slice a3 (sackF U N l (t.take (j + 1))).length c3) rfl
            have cc_0 := (HBC.out.keep HT.out.g).c 0 (x := .int .i64 U) rfl
            have cc_1 := (HBC.out.keep HT.out.g).c 1 (x := .int .i64 N) rfl
            have cc_2 := (HBC.out.keep HT.out.g).c 2 (x := .slice a9 M.length c9) rfl
            have cc_l := (HBC.out.keep HT.out.g).lt
            have cf_0 := (HBC.out.keep HT.out.g).f 0
            have cf_1 := (HBC.out.keep HT.out.g).f 1
            have cf_2 := (HBC.out.keep HT.out.g).f 2
            have zz_l := HT.out.bx.lt
            have hZC : C < Z := Nat.lt_of_lt_of_le HBC.out.lt HT.out.lz
            have HTW := Lib.hid (HT.out.take (Nat.le_of_eq HCC.out) HG0.out HBC.out (show w.heap.size ≤ wr.heap.size from Nat.le_trans (H4.out.2.2.2.2.2.2.2.2).size (HG0.out).size))
            go_wp2_with fail
            go_roundw
            case rel => exact ⟨j + 1, a3, c3, hlt, by go_num, HTW.out.1, HTW.out.2.1, HTW.out.2.2.1, HTW.out.2.2.2⟩
            case measure => simp [intOf]; omega
        · obtain rfl : j = t.length := by omega
          have hML : M = L := by rw [HM.out, List.take_length, HLL.out]
          subst hML
          have hbb : BB wr C U N a9 c9 M := ⟨HBC.out, HOC.out.1.at⟩
          have H6 := Lib.hid (And.intro (H5.out.1) (And.intro (H5.out.2.1) (And.intro (H5.out.2.2.1) (And.intro (H5.out.2.2.2.1) (And.intro (H5.out.2.2.2.2.1) (And.intro (H5.out.2.2.2.2.2.1) (And.intro (H5.out.2.2.2.2.2.2.1) (And.intro (H5.out.2.2.2.2.2.2.2.1) (And.intro (hbb) (H5.out.2.2.2.2.2.2.2.2))))))))))
          clear hbb HBC HOC
          have bn_0 := H6.out.2.2.2.2.2.1.bx.c 0 (x := .int .i64 U) rfl
          have bn_1 := H6.out.2.2.2.2.2.1.bx.c 1 (x := .int .i64 N) rfl
          have bn_2 := H6.out.2.2.2.2.2.1.bx.c 2 (x := .slice p1 M.length q1) rfl
          have bn_l := H6.out.2.2.2.2.2.1.bx.lt
          go_wp2_with fail
          refine ((sack_impl U N p1 q1 M _ tc t _ H6.out.2.2.2.2.2.2.1 H6.out.2.2.2.1 (by have := HTL.out.1; omega)).mono fun _ _ hh => bd_four HAG.out hh).mono ?_
          rintro e v6 ⟨p4, q4, rfl, hg, ho⟩
          have hrow := ho.at
          clear ho
          have H7 := Lib.hid (And.intro ((H6.out.1.kept hg).kept (World.grownBy_alloc v6 (.cells #[.int .i64 U, .int .i64 N, .slice p4 M.length q4] 26) none)) (And.intro ((H6.out.2.1.keep hg).keep (World.grownBy_alloc v6 (.cells #[.int .i64 U, .int .i64 N, .slice p4 M.length q4] 26) none)) (And.intro ((H6.out.2.2.1.kept hg).kept (World.grownBy_alloc v6 (.cells #[.int .i64 U, .int .i64 N, .slice p4 M.length q4] 26) none)) (And.intro ((H6.out.2.2.2.1.kept hg).kept (World.grownBy_alloc v6 (.cells #[.int .i64 U, .int .i64 N, .slice p4 M.length q4] 26) none)) (And.intro ((H6.out.2.2.2.2.1.kept hg).kept (World.grownBy_alloc v6 (.cells #[.int .i64 U, .int .i64 N, .slice p4 M.length q4] 26) none)) (And.intro ((H6.out.2.2.2.2.2.1.keep hg).keep (World.grownBy_alloc v6 (.cells #[.int .i64 U, .int .i64 N, .slice p4 M.length q4] 26) none)) (And.intro ((H6.out.2.2.2.2.2.2.1.kept hg).kept (World.grownBy_alloc v6 (.cells #[.int .i64 U, .int .i64 N, .slice p4 M.length q4] 26) none)) (And.intro ((H6.out.2.2.2.2.2.2.2.1.keep hg).keep (World.grownBy_alloc v6 (.cells #[.int .i64 U, .int .i64 N, .slice p4 M.length q4] 26) none)) (And.intro ((H6.out.2.2.2.2.2.2.2.2.1.keep hg).keep (World.grownBy_alloc v6 (.cells #[.int .i64 U, .int .i64 N, .slice p4 M.length q4] 26) none)) (And.intro (BB.new v6 (u := U) (n := N) (c := q4) hrow) (gA (grownBy_trans (H6.out.2.2.2.2.2.2.2.2.2) hg) (.cells #[.int .i64 U, .int .i64 N, .slice p4 M.length q4] 26))))))))))))
          clear hg hrow
          clear bn_0 bn_1 bn_2 bn_l
          go_upto_region 17 with fail
          generalize v6.heap.size = Bg at *
          generalize v6.alloc (.cells #[.int .i64 U, .int .i64 N, .slice p4 M.length q4] 26) = v6a at *
          have hfl := HFL.out
          go_cut [2] (fun s2 wx => s2 = .bool true ∧ v6a.grownBy wx none)
          case first =>
            have bo_0 := H7.out.2.2.2.2.2.2.2.2.1.bx.c 0 (x := .int .i64 U) rfl
            have bo_1 := H7.out.2.2.2.2.2.2.2.2.1.bx.c 1 (x := .int .i64 N) rfl
            have bo_2 := H7.out.2.2.2.2.2.2.2.2.1.bx.c 2 (x := .slice a9 M.length c9) rfl
            have bo_l := H7.out.2.2.2.2.2.2.2.2.1.bx.lt
            have bn_0 := H7.out.2.2.2.2.2.1.bx.c 0 (x := .int .i64 U) rfl
            have bn_1 := H7.out.2.2.2.2.2.1.bx.c 1 (x := .int .i64 N) rfl
            have bn_2 := H7.out.2.2.2.2.2.1.bx.c 2 (x := .slice p1 M.length q1) rfl
            have bn_l := H7.out.2.2.2.2.2.1.bx.lt
            have bg_0 := H7.out.2.2.2.2.2.2.2.2.2.1.bx.c 0 (x := .int .i64 U) rfl
            have bg_1 := H7.out.2.2.2.2.2.2.2.2.2.1.bx.c 1 (x := .int .i64 N) rfl
            have bg_2 := H7.out.2.2.2.2.2.2.2.2.2.1.bx.c 2 (x := .slice p4 M.length q4) rfl
            have bg_l := H7.out.2.2.2.2.2.2.2.2.2.1.bx.lt
            have bb_0 := H7.out.2.1.bx.c 0 (x := .int .i64 U) rfl
            have bb_1 := H7.out.2.1.bx.c 1 (x := .int .i64 N) rfl
            have bb_2 := H7.out.2.1.bx.c 2 (x := .slice ao l.length co) rfl
            have bb_l := H7.out.2.1.bx.lt
            go_region_with (first | (go_at_call 16; ((with_reducible refine (same_board U N a9 p1 c9 q1 M _ ((H7.out.2.2.2.2.2.2.2.2.1.rg.kept (by first | with_reducible exact World.grownBy.refl _ _ | with_reducible exact grownBy_drew))) ((H7.out.2.2.2.2.2.1.rg.kept (by first | with_reducible exact World.grownBy.refl _ _ | with_reducible exact grownBy_drew))) (by have := HLN.out; omega)).mono ?_); rintro e v20 ⟨rfl, hg⟩; have G2 := Lib.hid (show v6a.grownBy v20 none from (by first | with_reducible exact hg | with_reducible exact grownBy_trans grownBy_drew hg)); clear hg; have bg_0 := (H7.out.2.2.2.2.2.2.2.2.2.1.bx.keep G2.out).c 0 (x := .int .i64 U) rfl; have bg_1 := (H7.out.2.2.2.2.2.2.2.2.2.1.bx.keep G2.out).c 1 (x := .int .i64 N) rfl; have bg_2 := (H7.out.2.2.2.2.2.2.2.2.2.1.bx.keep G2.out).c 2 (x := .slice p4 M.length q4) rfl; have bg_l := (H7.out.2.2.2.2.2.2.2.2.2.1.bx.keep G2.out).lt; have bn_0 := (H7.out.2.2.2.2.2.1.bx.keep G2.out).c 0 (x := .int .i64 U) rfl; have bn_1 := (H7.out.2.2.2.2.2.1.bx.keep G2.out).c 1 (x := .int .i64 N) rfl; have bn_2 := (H7.out.2.2.2.2.2.1.bx.keep G2.out).c 2 (x := .slice p1 M.length q1) rfl; have bn_l := (H7.out.2.2.2.2.2.1.bx.keep G2.out).lt; have bb_0 := (H7.out.2.1.bx.keep G2.out).c 0 (x := .int .i64 U) rfl; have bb_1 := (H7.out.2.1.bx.keep G2.out).c 1 (x := .int .i64 N) rfl; have bb_2 := (H7.out.2.1.bx.keep G2.out).c 2 (x := .slice ao l.length co) rfl; have bb_l := (H7.out.2.1.bx.keep G2.out).lt)) | (go_at_call 16; ((with_reducible refine (same_board U N p4 p1 q4 q1 M _ ((H7.out.2.2.2.2.2.2.2.2.2.1.rg.kept G2.out)) ((H7.out.2.2.2.2.2.1.rg.kept G2.out)) (by have := HLN.out; omega)).mono ?_); rintro e v21 ⟨rfl, hg⟩; have G3 := Lib.hid (show v20.grownBy v21 none from (by first | with_reducible exact hg | with_reducible exact grownBy_trans grownBy_drew hg)); clear hg; have bn_0 := (H7.out.2.2.2.2.2.1.bx.keep (grownBy_trans G2.out G3.out)).c 0 (x := .int .i64 U) rfl; have bn_1 := (H7.out.2.2.2.2.2.1.bx.keep (grownBy_trans G2.out G3.out)).c 1 (x := .int .i64 N) rfl; have bn_2 := (H7.out.2.2.2.2.2.1.bx.keep (grownBy_trans G2.out G3.out)).c 2 (x := .slice p1 M.length q1) rfl; have bn_l := (H7.out.2.2.2.2.2.1.bx.keep (grownBy_trans G2.out G3.out)).lt; have bb_0 := (H7.out.2.1.bx.keep (grownBy_trans G2.out G3.out)).c 0 (x := .int .i64 U) rfl; have bb_1 := (H7.out.2.1.bx.keep (grownBy_trans G2.out G3.out)).c 1 (x := .int .i64 N) rfl; have bb_2 := (H7.out.2.1.bx.keep (grownBy_trans G2.out G3.out)).c 2 (x := .slice ao l.length co) rfl; have bb_l := (H7.out.2.1.bx.keep (grownBy_trans G2.out G3.out)).lt)) | (go_at_call 19; ((with_reducible refine (flight_at (u := U) (n := N) (l := M) rfl _ ((H7.out.2.2.2.2.2.1.rg.kept (grownBy_trans G2.out G3.out)))).mono ?_); rintro e v22 ⟨rfl, hg⟩; have G4 := Lib.hid (show v21.grownBy v22 none from (by first | with_reducible exact hg | with_reducible exact grownBy_trans grownBy_drew hg)); clear hg; have bn_0 := (H7.out.2.2.2.2.2.1.bx.keep (grownBy_trans (grownBy_trans G2.out G3.out) G4.out)).c 0 (x := .int .i64 U) rfl; have bn_1 := (H7.out.2.2.2.2.2.1.bx.keep (grownBy_trans (grownBy_trans G2.out G3.out) G4.out)).c 1 (x := .int .i64 N) rfl; have bn_2 := (H7.out.2.2.2.2.2.1.bx.keep (grownBy_trans (grownBy_trans G2.out G3.out) G4.out)).c 2 (x := .slice p1 M.length q1) rfl; have bn_l := (H7.out.2.2.2.2.2.1.bx.keep (grownBy_trans (grownBy_trans G2.out G3.out) G4.out)).lt; have bb_0 := (H7.out.2.1.bx.keep (grownBy_trans (grownBy_trans G2.out G3.out) G4.out)).c 0 (x := .int .i64 U) rfl; have bb_1 := (H7.out.2.1.bx.keep (grownBy_trans (grownBy_trans G2.out G3.out) G4.out)).c 1 (x := .int .i64 N) rfl; have bb_2 := (H7.out.2.1.bx.keep (grownBy_trans (grownBy_trans G2.out G3.out) G4.out)).c 2 (x := .slice ao l.length co) rfl; have bb_l := (H7.out.2.1.bx.keep (grownBy_trans (grownBy_trans G2.out G3.out) G4.out)).lt)) | (go_at_call 19; ((with_reducible refine (flight_at (u := U) (n := N) (l := l) rfl _ ((H7.out.2.1.rg.kept (grownBy_trans (grownBy_trans G2.out G3.out) G4.out)))).mono ?_); rintro e v23 ⟨rfl, hg⟩; have G5 := Lib.hid (show v22.grownBy v23 none from (by first | with_reducible exact hg | with_reducible exact grownBy_trans grownBy_drew hg)); clear hg; skip)))
            all_goals
              go_wp2_with fail
              go_meet
              first | exact ⟨rfl, grownBy_trans (grownBy_trans (grownBy_trans G2.out G3.out) G4.out) G5.out⟩ | exact ⟨by simp [hfl], grownBy_trans (grownBy_trans (grownBy_trans G2.out G3.out) G4.out) G5.out⟩ | (trace_state; fail)
          case rest =>
            obtain ⟨rfl, hg⟩ := hcut
            have H8 := Lib.hid (And.intro (H7.out.1.kept hg) (And.intro (H7.out.2.1.keep hg) (And.intro (H7.out.2.2.1.kept hg) (And.intro (H7.out.2.2.2.1.kept hg) (And.intro (H7.out.2.2.2.2.1.kept hg) (And.intro (H7.out.2.2.2.2.2.1.keep hg) (And.intro (H7.out.2.2.2.2.2.2.1.kept hg) (And.intro (H7.out.2.2.2.2.2.2.2.1.keep hg) (And.intro (H7.out.2.2.2.2.2.2.2.2.1.keep hg) (And.intro (H7.out.2.2.2.2.2.2.2.2.2.1.keep hg) (grownBy_trans (H7.out.2.2.2.2.2.2.2.2.2.2) hg)))))))))))
            clear hg
            go_wp2_with fail
            go_ret
            exact ⟨rfl, below_new (H8.out.2.2.2.2.2.2.2.2.2.2)⟩

set_option maxRecDepth 100000 in
theorem lifted (os : Os) (started : os.Started) (H : Type) (enc : TypeId × Value → H) :
    ReturnsInHanded {} Try.checked os 6 .any (Rows.fnSackTwiceSpec.pre6 enc Try.prog Try.f6 Rows.fnSackTwiceRow.domain false) (Rows.fnSackTwiceSpec.post enc Try.prog Try.f6 false true false false) := by
  refine returnsInHanded_of_change (C := Try.checked) own started (by kernel_rfl) Try.func6
    (ChangeSpec.witness6 (enc := enc) (C := Try.checked) false ⟨#[], #[.slice none 0 0], []⟩ 8 (by kernel_rfl) (by kernel_rfl) (by kernel_rfl) (by kernel_rfl)) ?_
  intro W base args ds gs before hval0 hW hcnd _
  have hval : ∀ (j : Nat) t v, Try.f6.params[j]? = some t → args[j]? = some v → Value.okWide Try.prog W .any base t v := hval0
  have hW' := hW
  obtain ⟨p, q, hA0, hV, rfl, hfz, hnd⟩ := hW
  have hA : DataW.TrodAll enc Try.prog W 0 (fun _ => true) true Try.f6.params.toList args.toList ds p := hA0
  rw [Try.params6] at hA hval
  obtain ⟨v0, vs0, d0, ds0, p0, q0, hargs, rfl, rfl, h0, r0⟩ := trodAll_cons hA
  obtain ⟨rfl, rfl, rfl⟩ := trodAll_nil r0
  obtain rfl : args = #[v0] := by cases args; simp_all
  obtain ⟨rfl, rfl⟩ := trodVars_none hV
  have k0 := h0
  have lt0 : ∀ x ∈ p0, x.block < W.heap.size := by obtain ⟨m, hm⟩ := k0; exact DataW.trod_lt m _ _ _ hm
  obtain ⟨a0, len0, cap0, rfl⟩ := okWide_slice Try.underlying22 (hval 0 22 v0 rfl rfl)
  obtain ⟨z0, w0⟩ : ∃ zs, IsRow .u8 W a0 len0 cap0 zs := by
    obtain ⟨fuel, hf⟩ := h0
    rcases open_ints Try.underlying22 Try.underlying5 (by kernel_rfl) hf with ⟨hcs, _⟩ | ⟨x, l, c, zs, hcs, _, hl, hm, hz, _, hcell, hwz⟩
    · simp [Value.cells] at hcs
      obtain ⟨rfl, rfl, rfl⟩ := hcs
      exact ⟨[], .inl ⟨rfl, rfl, rfl, rfl⟩⟩
    · simp [Value.cells] at hcs
      obtain ⟨rfl, rfl, rfl⟩ := hcs
      exact ⟨zs, .inr ⟨_, rfl, hl, hm, by simpa using hz, hcell, hwz⟩⟩
  clear hA0 hval0
  refine (walk a0 len0 cap0 z0 W w0).mono fun e W' ⟨he, bel⟩ => ?_
  subst he
  exact ⟨_, rfl, _, _, _, [], _, [], hW', trodAll_mk1 (shut_bool Try.underlying4 _), (trodAll_cons_mk (Below.trod laidOut (by kernel_rfl) (of_decide_eq_true (by kernel_rfl)) k0 bel lt0) trodAll_mk0), rfl, bel.frame _, fun h => by cases h⟩

theorem over : Rows.fnSackTwiceRow.holds Try.pinned (OpenSpec.ofChange Rows.fnSackTwiceSpec) :=
  OpenClaim.holds_of_wide 6 Try.f6 rfl rfl rfl rfl rfl rfl rfl ⟨rfl, rfl, rfl, rfl, rfl⟩ rfl rfl rfl rfl rfl (by kernel_rfl) Try.func6 (by kernel_rfl)
    (of_decide_eq_true (by kernel_rfl)) (by unfold Func.isWrapper; first | (rw [if_pos (by decide +kernel)]; kernel_rfl) | (rw [if_neg (by decide +kernel)]; exact ⟨rfl, rfl⟩))
    (fun os started H enc _ => lifted os started H enc)

theorem proved : Rows.FnSackTwiceSaid := over
end Go.Proofs.Ytedgfiagefhahaa.fnSackTwice
