/- For every code the law FnRenoPlay answers true and leaves its argument as it was; no condition. -/
import Derived.Test.YtklbnpnngfoecaaRows
import Derived.Test.YtklbnpnngfoecaaDraw
import Derived.Test.YtklbnpnngfoecaaRnU
import Derived.WalkKit
import Derived.ProofKit
import Derived.OpenShut
import Derived.ShutString
import Derived.ChangeOld
import Derived.Below
import Derived.Lib.SmallJoins
namespace Go.Proofs.Ytklbnpnngfoecaa.fnRenoPlay
open Go.ChangeShapes Go.WideShapes Go.ChangeAt Go.RowKit Go.Joins
open Go.ChangeMaps (open_string shut_string)
set_option linter.unusedVariables false

theorem own : ownKnob Try.prog.godebug = none := by kernel_rfl
theorem laidOut : laidOutB Try.prog = true := by kernel_rfl


def IsRow (k : IntKind) (w : World) (a : Option Addr) (len cap : Nat) (zs : List Int) : Prop :=
  (a = none ∧ len = 0 ∧ cap = 0 ∧ zs = []) ∨
  ∃ x, a = some x ∧ len ≤ cap ∧ cap ≤ maxLen ∧ zs.length = cap ∧ (∀ i, i < zs.length → w.cell? (x.add i) = some (.int k (zs.getD i 0))) ∧ ∀ n ∈ zs, (Lit.int k n).wf = true

theorem dummy10 : True := trivial

set_option maxRecDepth 100000 in
set_option maxHeartbeats 8000000 in
theorem walk (a0 : Option Addr) (len0 cap0 : Nat) (z0 : List Int) (w : World) (w0 : IsRow .u8 w a0 len0 cap0 z0) :
    Calls Try.prog 3 #[.slice a0 len0 cap0] w fun e w' => e = .returned (.bool true) ∧ Below w.heap.size w w' := by
  have hc := code_of w0
  clear w0
  have HC := Lib.hid hc
  clear hc
  by_cases hbig : 1048576 < len0
  · go_enter Try.func3, Try.ntmps3
    go_wp2_with (go_at_call 4; refine (big_any _ _ _ _).mono ?_; rintro e w' ⟨rfl, rfl⟩)
    go_ret
    exact ⟨rfl, Below.refl _ _⟩
  · go_enter Try.func3, Try.ntmps3
    go_wp2_with (go_at_call 4; refine (big_any _ _ _ _).mono ?_; rintro e w' ⟨rfl, rfl⟩)
    refine (draw_play _ _ _ _ HC.out).mono ?_
    rintro e w1 ⟨m, y, l, p, d, o, g, t, gg, cc, rfl, ht8, htc, hcm, hev, hg⟩
    have HE1 := Lib.hid hev
    have HG1 := Lib.hid hg
    have HC1 := Lib.hid (HC.out.kept hg)
    clear hg hev
    obtain ⟨R0, R1, R2, R3, R4, R5, R6, N, hv, hfull⟩ := pl_ex ⟨m, y, l, p, d, o, g⟩ t (by omega)
    have hi := fun (ao : Option Addr) (cap : Nat) W h => rp_impl m y l p d o g ao cap t W h (by omega)
    have hs := fun (ao : Option Addr) (cap : Nat) W h => rp_spec m y l p d o g ao cap t W h (by omega)
    simp only [hv] at hi hs
    have HI := Lib.hid hi
    have HS := Lib.hid hs
    have HF := Lib.hid hfull
    clear hi hs hfull hv
    go_wp2_with fail
    refine (HI.out _ _ _ (HE1.out.kept (World.grownBy_alloc _ _ none))).mono ?_
    rintro e w2 ⟨rfl, hg⟩
    have hk := grownBy_trans (World.grownBy_alloc w1 (.cells #[.int .i64 m, .int .i64 y, .int .i64 l, .int .i64 p, .int .i64 d, .int .i64 o, .int .i64 g] 25) none) hg
    have H2 := Lib.hid (And.intro (HE1.out.kept hk) (And.intro (HC1.out.kept hk) (And.intro (grownBy_trans HG1.out hk) ((Bx.new w1 25 #[.int .i64 m, .int .i64 y, .int .i64 l, .int .i64 p, .int .i64 d, .int .i64 o, .int .i64 g]).keep hg))))
    clear hg hk
    have ca0 := H2.out.2.2.2.c 0 (x := .int .i64 m) rfl
    have ca1 := H2.out.2.2.2.c 1 (x := .int .i64 y) rfl
    have ca2 := H2.out.2.2.2.c 2 (x := .int .i64 l) rfl
    have ca3 := H2.out.2.2.2.c 3 (x := .int .i64 p) rfl
    have ca4 := H2.out.2.2.2.c 4 (x := .int .i64 d) rfl
    have ca5 := H2.out.2.2.2.c 5 (x := .int .i64 o) rfl
    have ca6 := H2.out.2.2.2.c 6 (x := .int .i64 g) rfl
    have lt2 := H2.out.2.2.2.lt
    go_wp2_with fail
    refine (HS.out _ _ _ (H2.out.1.kept (World.grownBy_alloc _ _ none))).mono ?_
    rintro e w3 ⟨rfl, hg⟩
    have hk := grownBy_trans (World.grownBy_alloc w2 (.cells #[.int .i64 R0, .int .i64 R1, .int .i64 R2, .int .i64 R3, .int .i64 R4, .int .i64 R5, .int .i64 R6] 25) none) hg
    have H3 := Lib.hid (And.intro (H2.out.1.kept hk) (And.intro (H2.out.2.1.kept hk) (And.intro (grownBy_trans H2.out.2.2.1 hk) (And.intro (H2.out.2.2.2.keep hk) ((Bx.new w2 25 #[.int .i64 R0, .int .i64 R1, .int .i64 R2, .int .i64 R3, .int .i64 R4, .int .i64 R5, .int .i64 R6]).keep hg)))))
    clear hg hk lt2
    clear ca0 ca1 ca2 ca3 ca4 ca5 ca6
    go_wp2_with fail
    refine (draw_new _ _ _ _ (H3.out.2.1.kept (World.grownBy_alloc _ _ none))).mono ?_
    rintro e w4 ⟨mss, many, _, _, rfl, hg⟩
    have hk := grownBy_trans (World.grownBy_alloc w3 (.cells #[.int .i64 R0, .int .i64 R1, .int .i64 R2, .int .i64 R3, .int .i64 R4, .int .i64 R5, .int .i64 R6] 25) none) hg
    have H4 := Lib.hid (And.intro (H3.out.1.kept hk) (And.intro (grownBy_trans H3.out.2.2.1 hk) (And.intro (H3.out.2.2.2.1.keep hk) (And.intro (H3.out.2.2.2.2.keep hk) ((Bx.new w3 25 #[.int .i64 R0, .int .i64 R1, .int .i64 R2, .int .i64 R3, .int .i64 R4, .int .i64 R5, .int .i64 R6]).keep hg)))))
    clear hg hk
    obtain ⟨X0, X1, X2, X3, X4, X5, X6, is, hv2, hok⟩ := nw_ex mss many
    have hi2 := fun W => rn_newI mss many W
    have hs2 := fun W => rn_newS mss many W
    simp only [hv2] at hi2 hs2
    have HNI := Lib.hid hi2
    have HNS := Lib.hid hs2
    have HOK := Lib.hid hok
    clear hi2 hs2 hv2 hok
    go_wp2_with fail
    refine (HNI.out _).mono ?_
    rintro e w5 ⟨rfl, hg⟩
    have H5 := Lib.hid (And.intro (H4.out.1.kept hg) (And.intro (grownBy_trans H4.out.2.1 hg) (And.intro (H4.out.2.2.1.keep hg) (And.intro (H4.out.2.2.2.1.keep hg) (H4.out.2.2.2.2.keep hg)))))
    clear hg
    go_wp2_with fail
    refine (HNS.out _).mono ?_
    rintro e w6 ⟨rfl, hg⟩
    have hk := grownBy_trans (World.grownBy_alloc w5 (.cells #[.int .i64 X0, .int .i64 X1, .int .i64 X2, .int .i64 X3, .int .i64 X4, .int .i64 X5, .int .i64 X6] 25) none) hg
    have H6 := Lib.hid (And.intro (H5.out.1.kept hk) (And.intro (grownBy_trans H5.out.2.1 hk) (And.intro (H5.out.2.2.1.keep hk) (And.intro (H5.out.2.2.2.1.keep hk) (And.intro (H5.out.2.2.2.2.keep hk) ((Bx.new w5 25 #[.int .i64 X0, .int .i64 X1, .int .i64 X2, .int .i64 X3, .int .i64 X4, .int .i64 X5, .int .i64 X6]).keep hg))))))
    clear hg hk
    go_upto_region 9 with fail
    obtain ⟨w7, hw7⟩ : ∃ w7, w7 = w6.alloc (.cells #[.int .i64 X0, .int .i64 X1, .int .i64 X2, .int .i64 X3, .int .i64 X4, .int .i64 X5, .int .i64 X6] 25) := ⟨_, rfl⟩
    rw [← hw7]
    have hk : w6.grownBy w7 none := hw7 ▸ World.grownBy_alloc _ _ _
    have hy : Bx w7 w6.heap.size 25 #[.int .i64 X0, .int .i64 X1, .int .i64 X2, .int .i64 X3, .int .i64 X4, .int .i64 X5, .int .i64 X6] := hw7 ▸ Bx.new _ _ _
    have H7 := Lib.hid (And.intro (H6.out.1.kept hk) (And.intro (grownBy_trans H6.out.2.1 hk) (And.intro (H6.out.2.2.1.keep hk) (And.intro (H6.out.2.2.2.1.keep hk) (And.intro (H6.out.2.2.2.2.1.keep hk) (And.intro (H6.out.2.2.2.2.2.keep hk) hy))))))
    clear hk hy hw7
    generalize w1.heap.size = ZA at *
    generalize w2.heap.size = ZN at *
    generalize w3.heap.size = ZT at *
    generalize w5.heap.size = ZX at *
    generalize w6.heap.size = ZY at *
    have cn0 := H7.out.2.2.2.1.c 0 (x := .int .i64 R0) rfl
    have cn1 := H7.out.2.2.2.1.c 1 (x := .int .i64 R1) rfl
    have cn2 := H7.out.2.2.2.1.c 2 (x := .int .i64 R2) rfl
    have cn3 := H7.out.2.2.2.1.c 3 (x := .int .i64 R3) rfl
    have cn4 := H7.out.2.2.2.1.c 4 (x := .int .i64 R4) rfl
    have cn5 := H7.out.2.2.2.1.c 5 (x := .int .i64 R5) rfl
    have cn6 := H7.out.2.2.2.1.c 6 (x := .int .i64 R6) rfl
    have ct0 := H7.out.2.2.2.2.1.c 0 (x := .int .i64 R0) rfl
    have ct1 := H7.out.2.2.2.2.1.c 1 (x := .int .i64 R1) rfl
    have ct2 := H7.out.2.2.2.2.1.c 2 (x := .int .i64 R2) rfl
    have ct3 := H7.out.2.2.2.2.1.c 3 (x := .int .i64 R3) rfl
    have ct4 := H7.out.2.2.2.2.1.c 4 (x := .int .i64 R4) rfl
    have ct5 := H7.out.2.2.2.2.1.c 5 (x := .int .i64 R5) rfl
    have ct6 := H7.out.2.2.2.2.1.c 6 (x := .int .i64 R6) rfl
    have cx0 := H7.out.2.2.2.2.2.1.c 0 (x := .int .i64 X0) rfl
    have cx1 := H7.out.2.2.2.2.2.1.c 1 (x := .int .i64 X1) rfl
    have cx2 := H7.out.2.2.2.2.2.1.c 2 (x := .int .i64 X2) rfl
    have cx3 := H7.out.2.2.2.2.2.1.c 3 (x := .int .i64 X3) rfl
    have cx4 := H7.out.2.2.2.2.2.1.c 4 (x := .int .i64 X4) rfl
    have cx5 := H7.out.2.2.2.2.2.1.c 5 (x := .int .i64 X5) rfl
    have cx6 := H7.out.2.2.2.2.2.1.c 6 (x := .int .i64 X6) rfl
    have cy0 := H7.out.2.2.2.2.2.2.c 0 (x := .int .i64 X0) rfl
    have cy1 := H7.out.2.2.2.2.2.2.c 1 (x := .int .i64 X1) rfl
    have cy2 := H7.out.2.2.2.2.2.2.c 2 (x := .int .i64 X2) rfl
    have cy3 := H7.out.2.2.2.2.2.2.c 3 (x := .int .i64 X3) rfl
    have cy4 := H7.out.2.2.2.2.2.2.c 4 (x := .int .i64 X4) rfl
    have cy5 := H7.out.2.2.2.2.2.2.c 5 (x := .int .i64 X5) rfl
    have cy6 := H7.out.2.2.2.2.2.2.c 6 (x := .int .i64 X6) rfl
    cases is
    · by_cases hN : N < (t.length : Int)
      · go_wp2_with fail
        go_ret
        exact ⟨rfl, below_new H7.out.2.1⟩
      · obtain ⟨hr, hpl, rfl⟩ := HF.out (by first | exact hN | omega)
        obtain ⟨K, hK⟩ : ∃ K, K = len0 % (t.length + 1) := ⟨_, rfl⟩
        have hK1 : K ≤ t.length := by have := Nat.mod_lt len0 (show 0 < t.length + 1 by omega); omega
        have sP : IntKind.i64.wrap ((t.length : Int) + 1) = (t.length : Int) + 1 := IntWalk.i64_in _ (by omega)
        have eK : (len0 : Int) % ((t.length : Int) + 1) = (K : Int) := by rw [hK, Int.natCast_emod]; rfl
        have eT : (len0 : Int).tmod ((t.length : Int) + 1) = (K : Int) := by rw [Int.tmod_eq_emod_of_nonneg (by omega), eK]
        have sK : IntKind.i64.wrap ((len0 : Int).tmod ((t.length : Int) + 1)) = (K : Int) := by rw [Int.tmod_eq_emod_of_nonneg (by omega), eK]; exact IntWalk.i64_in _ (by omega)
        clear hK
        obtain ⟨⟨A0, A1, A2, A3, A4, A5, A6⟩, p1, p2⟩ := play_cut t ⟨m, y, l, p, d, o, g⟩ ⟨R0, R1, R2, R3, R4, R5, R6⟩ K hpl hK1
        have hokA : rnOk ⟨A0, A1, A2, A3, A4, A5, A6⟩ = true := by have h := play_ok (t.take K) ⟨m, y, l, p, d, o, g⟩ hr; rw [p1] at h; exact h
        obtain ⟨D, hD⟩ : ∃ D, D = t.length - K := ⟨_, rfl⟩
        have l1 : (t.take K).length = K := by rw [List.length_take]; omega
        have l2 : (t.drop K).length = D := by rw [List.length_drop, hD]
        have v1 : plV ⟨m, y, l, p, d, o, g⟩ (t.take K) = .tuple #[.agg #[.int .i64 A0, .int .i64 A1, .int .i64 A2, .int .i64 A3, .int .i64 A4, .int .i64 A5, .int .i64 A6], .int .i64 (K : Nat)] := by rw [pl_yes hr (by omega), p1]; rfl
        have v2 : plV ⟨A0, A1, A2, A3, A4, A5, A6⟩ (t.drop K) = .tuple #[.agg #[.int .i64 R0, .int .i64 R1, .int .i64 R2, .int .i64 R3, .int .i64 R4, .int .i64 R5, .int .i64 R6], .int .i64 (D : Nat)] := by rw [pl_yes hokA (by omega), p2, hD]; rfl
        have i1 := fun (ao : Option Addr) (cap : Nat) W h => rp_impl m y l p d o g ao cap (t.take K) W h (by omega)
        have i2 := fun (ao : Option Addr) (cap : Nat) W h => rp_impl A0 A1 A2 A3 A4 A5 A6 ao cap (t.drop K) W h (by omega)
        simp only [v1, l1] at i1
        simp only [v2, l2] at i2
        have HI1 := Lib.hid i1
        have HI2 := Lib.hid i2
        have sD : IntKind.i64.wrap ((t.length : Int) - (K : Int)) = (D : Int) := (IntWalk.i64_in _ (by omega)).trans (by omega)
        have sKK : IntKind.i64.wrap (K : Int) = (K : Int) := IntWalk.i64_in _ (by omega)
        have k0 : (0 : Int) ≤ (K : Int) := by omega
        have k1 : (K : Int) ≤ (cc : Int) := by omega
        have k2 : (K : Int) ≤ (t.length : Int) := by omega
        have k3 : K ≤ cc := by omega
        have hDK : t.length - K = D := hD.symm
        clear i1 i2 v1 v2 p1 p2 l1 l2 hpl hr hokA hN hD
        go_upto_region 14 with fail
        go_cut [16, 17] (fun s16 s17 wx => ∃ B : Nat, s16 = .pointer (some ⟨B, 0, none⟩) ∧ s17 = .int .i64 (K : Nat) ∧ Bx wx B 25 #[.int .i64 A0, .int .i64 A1, .int .i64 A2, .int .i64 A3, .int .i64 A4, .int .i64 A5, .int .i64 A6] ∧ w7.grownBy wx none)
        case first =>
          have br0 := H7.out.2.2.1.c 0 (x := .int .i64 m) rfl
          have br1 := H7.out.2.2.1.c 1 (x := .int .i64 y) rfl
          have br2 := H7.out.2.2.1.c 2 (x := .int .i64 l) rfl
          have br3 := H7.out.2.2.1.c 3 (x := .int .i64 p) rfl
          have br4 := H7.out.2.2.1.c 4 (x := .int .i64 d) rfl
          have br5 := H7.out.2.2.1.c 5 (x := .int .i64 o) rfl
          have br6 := H7.out.2.2.1.c 6 (x := .int .i64 g) rfl
          have lr := H7.out.2.2.1.lt
          by_cases hc0 : cc = 0
          · have hK0 : K = 0 := by omega
            subst hK0
            subst hc0
            go_region_with (first | (go_at_call 6; refine (HI1.out _ _ _ ?_).mono ?_; exact (H7.out.1.take _).kept (by first | with_reducible exact World.grownBy.refl _ _ | with_reducible exact grownBy_drew | with_reducible exact World.grownBy_alloc _ _ none | with_reducible exact grownBy_trans grownBy_drew (World.grownBy_alloc _ _ none) | with_reducible exact grownBy_trans (World.grownBy_alloc _ _ none) grownBy_drew); rintro e w9 ⟨rfl, hg⟩; have G9 := Lib.hid (show w7.grownBy w9 none from (by first | with_reducible exact hg | with_reducible exact grownBy_trans grownBy_drew hg | with_reducible exact grownBy_trans (World.grownBy_alloc _ _ _) hg | with_reducible exact grownBy_trans grownBy_drew (grownBy_trans (World.grownBy_alloc _ _ _) hg) | with_reducible exact grownBy_trans (World.grownBy_alloc _ _ _) (grownBy_trans grownBy_drew hg))); (first | have xc := Lib.hid ((Bx.new _ 25 #[.int .i64 0, .int .i64 0, .int .i64 0, .int .i64 0, .int .i64 0, .int .i64 0, .int .i64 0]).keep hg) | have xc := Lib.hid (((Bx.new _ 25 #[.int .i64 0, .int .i64 0, .int .i64 0, .int .i64 0, .int .i64 0, .int .i64 0, .int .i64 0]).keep (grownBy_drew (r := none))).keep hg) | skip); clear hg; try (have q0 := xc.out.c 0 (x := .int .i64 0) rfl; have q1 := xc.out.c 1 (x := .int .i64 0) rfl; have q2 := xc.out.c 2 (x := .int .i64 0) rfl; have q3 := xc.out.c 3 (x := .int .i64 0) rfl; have q4 := xc.out.c 4 (x := .int .i64 0) rfl; have q5 := xc.out.c 5 (x := .int .i64 0) rfl; have q6 := xc.out.c 6 (x := .int .i64 0) rfl; have qf0 := xc.out.f 0; have qf1 := xc.out.f 1; have qf2 := xc.out.f 2; have qf3 := xc.out.f 3; have qf4 := xc.out.f 4; have qf5 := xc.out.f 5; have qf6 := xc.out.f 6)))
            all_goals
              go_wp2_with fail
              go_meet
              first
                | exact ⟨_, rfl, rfl, by with_reducible exact Bx.new _ _ _, by with_reducible exact grownBy_trans G9.out (World.grownBy_alloc _ _ none)⟩
                | exact ⟨_, rfl, rfl, by with_reducible exact set7 xc.out _ _ _ _ _ _ _, by with_reducible exact gsets G9.out (Nat.le_refl _)⟩
          · have hc3 : 0 < cc := by omega
            go_region_with (first | (go_at_call 6; refine (HI1.out _ _ _ ?_).mono ?_; exact (H7.out.1.take _).kept (by first | with_reducible exact World.grownBy.refl _ _ | with_reducible exact grownBy_drew | with_reducible exact World.grownBy_alloc _ _ none | with_reducible exact grownBy_trans grownBy_drew (World.grownBy_alloc _ _ none) | with_reducible exact grownBy_trans (World.grownBy_alloc _ _ none) grownBy_drew); rintro e w9 ⟨rfl, hg⟩; have G9 := Lib.hid (show w7.grownBy w9 none from (by first | with_reducible exact hg | with_reducible exact grownBy_trans grownBy_drew hg | with_reducible exact grownBy_trans (World.grownBy_alloc _ _ _) hg | with_reducible exact grownBy_trans grownBy_drew (grownBy_trans (World.grownBy_alloc _ _ _) hg) | with_reducible exact grownBy_trans (World.grownBy_alloc _ _ _) (grownBy_trans grownBy_drew hg))); (first | have xc := Lib.hid ((Bx.new _ 25 #[.int .i64 0, .int .i64 0, .int .i64 0, .int .i64 0, .int .i64 0, .int .i64 0, .int .i64 0]).keep hg) | have xc := Lib.hid (((Bx.new _ 25 #[.int .i64 0, .int .i64 0, .int .i64 0, .int .i64 0, .int .i64 0, .int .i64 0, .int .i64 0]).keep (grownBy_drew (r := none))).keep hg) | skip); clear hg; try (have q0 := xc.out.c 0 (x := .int .i64 0) rfl; have q1 := xc.out.c 1 (x := .int .i64 0) rfl; have q2 := xc.out.c 2 (x := .int .i64 0) rfl; have q3 := xc.out.c 3 (x := .int .i64 0) rfl; have q4 := xc.out.c 4 (x := .int .i64 0) rfl; have q5 := xc.out.c 5 (x := .int .i64 0) rfl; have q6 := xc.out.c 6 (x := .int .i64 0) rfl; have qf0 := xc.out.f 0; have qf1 := xc.out.f 1; have qf2 := xc.out.f 2; have qf3 := xc.out.f 3; have qf4 := xc.out.f 4; have qf5 := xc.out.f 5; have qf6 := xc.out.f 6)))
            all_goals
              go_wp2_with fail
              go_meet
              first
                | exact ⟨_, rfl, rfl, by with_reducible exact Bx.new _ _ _, by with_reducible exact grownBy_trans G9.out (World.grownBy_alloc _ _ none)⟩
                | exact ⟨_, rfl, rfl, by with_reducible exact set7 xc.out _ _ _ _ _ _ _, by with_reducible exact gsets G9.out (Nat.le_refl _)⟩
        case rest =>
          obtain ⟨B, rfl, rfl, hbx, hg⟩ := hcut
          have HX1 := Lib.hid (And.intro (H7.out.1.kept hg) (And.intro (grownBy_trans H7.out.2.1 hg) (And.intro (H7.out.2.2.2.1.keep hg) hbx)))
          clear hg hbx
          generalize hwc : wc = w10 at *
          clear hwc
          by_cases hck : cc = K
          · obtain rfl : K = cc := hck.symm
            have htk : t.drop K = [] := List.drop_eq_nil_of_le (by omega)
            have HEd := Lib.hid (show ∀ a, EvAt w10 a (t.drop K) from fun _ => .inl htk)
            clear htk
            go_upto_region 16 with fail
            go_cut [18, 19] (fun s18 s19 wx => ∃ B : Nat, s18 = .pointer (some ⟨B, 0, none⟩) ∧ s19 = .int .i64 (D : Nat) ∧ Bx wx B 25 #[.int .i64 R0, .int .i64 R1, .int .i64 R2, .int .i64 R3, .int .i64 R4, .int .i64 R5, .int .i64 R6] ∧ w10.grownBy wx none)
            case first =>
              have br0 := HX1.out.2.2.2.c 0 (x := .int .i64 A0) rfl
              have br1 := HX1.out.2.2.2.c 1 (x := .int .i64 A1) rfl
              have br2 := HX1.out.2.2.2.c 2 (x := .int .i64 A2) rfl
              have br3 := HX1.out.2.2.2.c 3 (x := .int .i64 A3) rfl
              have br4 := HX1.out.2.2.2.c 4 (x := .int .i64 A4) rfl
              have br5 := HX1.out.2.2.2.c 5 (x := .int .i64 A5) rfl
              have br6 := HX1.out.2.2.2.c 6 (x := .int .i64 A6) rfl
              have lr := HX1.out.2.2.2.lt
              go_region_with (first | (go_at_call 6; refine (HI2.out _ _ _ ?_).mono ?_; exact (HEd.out _).kept (by first | with_reducible exact World.grownBy.refl _ _ | with_reducible exact grownBy_drew | with_reducible exact World.grownBy_alloc _ _ none | with_reducible exact grownBy_trans grownBy_drew (World.grownBy_alloc _ _ none) | with_reducible exact grownBy_trans (World.grownBy_alloc _ _ none) grownBy_drew); rintro e w11 ⟨rfl, hg⟩; have G9 := Lib.hid (show w10.grownBy w11 none from (by first | with_reducible exact hg | with_reducible exact grownBy_trans grownBy_drew hg | with_reducible exact grownBy_trans (World.grownBy_alloc _ _ _) hg | with_reducible exact grownBy_trans grownBy_drew (grownBy_trans (World.grownBy_alloc _ _ _) hg) | with_reducible exact grownBy_trans (World.grownBy_alloc _ _ _) (grownBy_trans grownBy_drew hg))); (first | have xc := Lib.hid ((Bx.new _ 25 #[.int .i64 0, .int .i64 0, .int .i64 0, .int .i64 0, .int .i64 0, .int .i64 0, .int .i64 0]).keep hg) | have xc := Lib.hid (((Bx.new _ 25 #[.int .i64 0, .int .i64 0, .int .i64 0, .int .i64 0, .int .i64 0, .int .i64 0, .int .i64 0]).keep (grownBy_drew (r := none))).keep hg) | skip); clear hg; try (have q0 := xc.out.c 0 (x := .int .i64 0) rfl; have q1 := xc.out.c 1 (x := .int .i64 0) rfl; have q2 := xc.out.c 2 (x := .int .i64 0) rfl; have q3 := xc.out.c 3 (x := .int .i64 0) rfl; have q4 := xc.out.c 4 (x := .int .i64 0) rfl; have q5 := xc.out.c 5 (x := .int .i64 0) rfl; have q6 := xc.out.c 6 (x := .int .i64 0) rfl; have qf0 := xc.out.f 0; have qf1 := xc.out.f 1; have qf2 := xc.out.f 2; have qf3 := xc.out.f 3; have qf4 := xc.out.f 4; have qf5 := xc.out.f 5; have qf6 := xc.out.f 6)))
              all_goals
                go_wp2_with fail
                go_meet
                first
                  | exact ⟨_, rfl, rfl, by with_reducible exact Bx.new _ _ _, by with_reducible exact grownBy_trans G9.out (World.grownBy_alloc _ _ none)⟩
                  | exact ⟨_, rfl, rfl, by with_reducible exact set7 xc.out _ _ _ _ _ _ _, by with_reducible exact gsets G9.out (Nat.le_refl _)⟩
            case rest =>
              obtain ⟨B2, rfl, rfl, hbx, hg⟩ := hcut
              have HX2 := Lib.hid (And.intro (grownBy_trans HX1.out.2.1 hg) (And.intro (HX1.out.2.2.1.keep hg) hbx))
              clear hg hbx
              have fn0 := HX2.out.2.1.c 0 (x := .int .i64 R0) rfl
              have fn1 := HX2.out.2.1.c 1 (x := .int .i64 R1) rfl
              have fn2 := HX2.out.2.1.c 2 (x := .int .i64 R2) rfl
              have fn3 := HX2.out.2.1.c 3 (x := .int .i64 R3) rfl
              have fn4 := HX2.out.2.1.c 4 (x := .int .i64 R4) rfl
              have fn5 := HX2.out.2.1.c 5 (x := .int .i64 R5) rfl
              have fn6 := HX2.out.2.1.c 6 (x := .int .i64 R6) rfl
              have fb0 := HX2.out.2.2.c 0 (x := .int .i64 R0) rfl
              have fb1 := HX2.out.2.2.c 1 (x := .int .i64 R1) rfl
              have fb2 := HX2.out.2.2.c 2 (x := .int .i64 R2) rfl
              have fb3 := HX2.out.2.2.c 3 (x := .int .i64 R3) rfl
              have fb4 := HX2.out.2.2.c 4 (x := .int .i64 R4) rfl
              have fb5 := HX2.out.2.2.c 5 (x := .int .i64 R5) rfl
              have fb6 := HX2.out.2.2.c 6 (x := .int .i64 R6) rfl
              go_wp2_with fail
              go_ret
              exact ⟨rfl, below_new HX2.out.1⟩
          · have hck2 : ¬ (cc : Int) = (K : Int) := by omega
            have hck3 : K < cc := by omega
            have HEd := Lib.hid (show EvAt w10 (some ⟨gg, K * 5, none⟩) (t.drop K) from by simpa using HX1.out.1.drop K)
            go_upto_region 16 with fail
            go_cut [18, 19] (fun s18 s19 wx => ∃ B : Nat, s18 = .pointer (some ⟨B, 0, none⟩) ∧ s19 = .int .i64 (D : Nat) ∧ Bx wx B 25 #[.int .i64 R0, .int .i64 R1, .int .i64 R2, .int .i64 R3, .int .i64 R4, .int .i64 R5, .int .i64 R6] ∧ w10.grownBy wx none)
            case first =>
              have br0 := HX1.out.2.2.2.c 0 (x := .int .i64 A0) rfl
              have br1 := HX1.out.2.2.2.c 1 (x := .int .i64 A1) rfl
              have br2 := HX1.out.2.2.2.c 2 (x := .int .i64 A2) rfl
              have br3 := HX1.out.2.2.2.c 3 (x := .int .i64 A3) rfl
              have br4 := HX1.out.2.2.2.c 4 (x := .int .i64 A4) rfl
              have br5 := HX1.out.2.2.2.c 5 (x := .int .i64 A5) rfl
              have br6 := HX1.out.2.2.2.c 6 (x := .int .i64 A6) rfl
              have lr := HX1.out.2.2.2.lt
              go_region_with (first | (go_at_call 6; refine (HI2.out _ _ _ ?_).mono ?_; exact (HEd.out).kept (by first | with_reducible exact World.grownBy.refl _ _ | with_reducible exact grownBy_drew | with_reducible exact World.grownBy_alloc _ _ none | with_reducible exact grownBy_trans grownBy_drew (World.grownBy_alloc _ _ none) | with_reducible exact grownBy_trans (World.grownBy_alloc _ _ none) grownBy_drew); rintro e w11 ⟨rfl, hg⟩; have G9 := Lib.hid (show w10.grownBy w11 none from (by first | with_reducible exact hg | with_reducible exact grownBy_trans grownBy_drew hg | with_reducible exact grownBy_trans (World.grownBy_alloc _ _ _) hg | with_reducible exact grownBy_trans grownBy_drew (grownBy_trans (World.grownBy_alloc _ _ _) hg) | with_reducible exact grownBy_trans (World.grownBy_alloc _ _ _) (grownBy_trans grownBy_drew hg))); (first | have xc := Lib.hid ((Bx.new _ 25 #[.int .i64 0, .int .i64 0, .int .i64 0, .int .i64 0, .int .i64 0, .int .i64 0, .int .i64 0]).keep hg) | have xc := Lib.hid (((Bx.new _ 25 #[.int .i64 0, .int .i64 0, .int .i64 0, .int .i64 0, .int .i64 0, .int .i64 0, .int .i64 0]).keep (grownBy_drew (r := none))).keep hg) | skip); clear hg; try (have q0 := xc.out.c 0 (x := .int .i64 0) rfl; have q1 := xc.out.c 1 (x := .int .i64 0) rfl; have q2 := xc.out.c 2 (x := .int .i64 0) rfl; have q3 := xc.out.c 3 (x := .int .i64 0) rfl; have q4 := xc.out.c 4 (x := .int .i64 0) rfl; have q5 := xc.out.c 5 (x := .int .i64 0) rfl; have q6 := xc.out.c 6 (x := .int .i64 0) rfl; have qf0 := xc.out.f 0; have qf1 := xc.out.f 1; have qf2 := xc.out.f 2; have qf3 := xc.out.f 3; have qf4 := xc.out.f 4; have qf5 := xc.out.f 5; have qf6 := xc.out.f 6)))
              all_goals
                go_wp2_with fail
                go_meet
                first
                  | exact ⟨_, rfl, rfl, by with_reducible exact Bx.new _ _ _, by with_reducible exact grownBy_trans G9.out (World.grownBy_alloc _ _ none)⟩
                  | exact ⟨_, rfl, rfl, by with_reducible exact set7 xc.out _ _ _ _ _ _ _, by with_reducible exact gsets G9.out (Nat.le_refl _)⟩
            case rest =>
              obtain ⟨B2, rfl, rfl, hbx, hg⟩ := hcut
              have HX2 := Lib.hid (And.intro (grownBy_trans HX1.out.2.1 hg) (And.intro (HX1.out.2.2.1.keep hg) hbx))
              clear hg hbx
              have fn0 := HX2.out.2.1.c 0 (x := .int .i64 R0) rfl
              have fn1 := HX2.out.2.1.c 1 (x := .int .i64 R1) rfl
              have fn2 := HX2.out.2.1.c 2 (x := .int .i64 R2) rfl
              have fn3 := HX2.out.2.1.c 3 (x := .int .i64 R3) rfl
              have fn4 := HX2.out.2.1.c 4 (x := .int .i64 R4) rfl
              have fn5 := HX2.out.2.1.c 5 (x := .int .i64 R5) rfl
              have fn6 := HX2.out.2.1.c 6 (x := .int .i64 R6) rfl
              have fb0 := HX2.out.2.2.c 0 (x := .int .i64 R0) rfl
              have fb1 := HX2.out.2.2.c 1 (x := .int .i64 R1) rfl
              have fb2 := HX2.out.2.2.c 2 (x := .int .i64 R2) rfl
              have fb3 := HX2.out.2.2.c 3 (x := .int .i64 R3) rfl
              have fb4 := HX2.out.2.2.c 4 (x := .int .i64 R4) rfl
              have fb5 := HX2.out.2.2.c 5 (x := .int .i64 R5) rfl
              have fb6 := HX2.out.2.2.c 6 (x := .int .i64 R6) rfl
              go_wp2_with fail
              go_ret
              exact ⟨rfl, below_new HX2.out.1⟩
    · have hro := fun W => rn_okg X0 X1 X2 X3 X4 X5 X6 W
      simp only [HOK.out (by first | rfl | trivial)] at hro
      have HRO := Lib.hid hro
      clear hro
      go_wp2_with fail
      refine (HRO.out _).mono ?_
      rintro e w8 ⟨rfl, hg⟩
      have H8 := Lib.hid (And.intro (H7.out.1.kept hg) (And.intro (grownBy_trans H7.out.2.1 hg) (And.intro (H7.out.2.2.1.keep hg) (H7.out.2.2.2.1.keep hg))))
      clear hg
      by_cases hN : N < (t.length : Int)
      · go_wp2_with fail
        go_ret
        exact ⟨rfl, below_new H8.out.2.1⟩
      · obtain ⟨hr, hpl, rfl⟩ := HF.out (by first | exact hN | omega)
        obtain ⟨K, hK⟩ : ∃ K, K = len0 % (t.length + 1) := ⟨_, rfl⟩
        have hK1 : K ≤ t.length := by have := Nat.mod_lt len0 (show 0 < t.length + 1 by omega); omega
        have sP : IntKind.i64.wrap ((t.length : Int) + 1) = (t.length : Int) + 1 := IntWalk.i64_in _ (by omega)
        have eK : (len0 : Int) % ((t.length : Int) + 1) = (K : Int) := by rw [hK, Int.natCast_emod]; rfl
        have eT : (len0 : Int).tmod ((t.length : Int) + 1) = (K : Int) := by rw [Int.tmod_eq_emod_of_nonneg (by omega), eK]
        have sK : IntKind.i64.wrap ((len0 : Int).tmod ((t.length : Int) + 1)) = (K : Int) := by rw [Int.tmod_eq_emod_of_nonneg (by omega), eK]; exact IntWalk.i64_in _ (by omega)
        clear hK
        obtain ⟨⟨A0, A1, A2, A3, A4, A5, A6⟩, p1, p2⟩ := play_cut t ⟨m, y, l, p, d, o, g⟩ ⟨R0, R1, R2, R3, R4, R5, R6⟩ K hpl hK1
        have hokA : rnOk ⟨A0, A1, A2, A3, A4, A5, A6⟩ = true := by have h := play_ok (t.take K) ⟨m, y, l, p, d, o, g⟩ hr; rw [p1] at h; exact h
        obtain ⟨D, hD⟩ : ∃ D, D = t.length - K := ⟨_, rfl⟩
        have l1 : (t.take K).length = K := by rw [List.length_take]; omega
        have l2 : (t.drop K).length = D := by rw [List.length_drop, hD]
        have v1 : plV ⟨m, y, l, p, d, o, g⟩ (t.take K) = .tuple #[.agg #[.int .i64 A0, .int .i64 A1, .int .i64 A2, .int .i64 A3, .int .i64 A4, .int .i64 A5, .int .i64 A6], .int .i64 (K : Nat)] := by rw [pl_yes hr (by omega), p1]; rfl
        have v2 : plV ⟨A0, A1, A2, A3, A4, A5, A6⟩ (t.drop K) = .tuple #[.agg #[.int .i64 R0, .int .i64 R1, .int .i64 R2, .int .i64 R3, .int .i64 R4, .int .i64 R5, .int .i64 R6], .int .i64 (D : Nat)] := by rw [pl_yes hokA (by omega), p2, hD]; rfl
        have i1 := fun (ao : Option Addr) (cap : Nat) W h => rp_impl m y l p d o g ao cap (t.take K) W h (by omega)
        have i2 := fun (ao : Option Addr) (cap : Nat) W h => rp_impl A0 A1 A2 A3 A4 A5 A6 ao cap (t.drop K) W h (by omega)
        simp only [v1, l1] at i1
        simp only [v2, l2] at i2
        have HI1 := Lib.hid i1
        have HI2 := Lib.hid i2
        have sD : IntKind.i64.wrap ((t.length : Int) - (K : Int)) = (D : Int) := (IntWalk.i64_in _ (by omega)).trans (by omega)
        have sKK : IntKind.i64.wrap (K : Int) = (K : Int) := IntWalk.i64_in _ (by omega)
        have k0 : (0 : Int) ≤ (K : Int) := by omega
        have k1 : (K : Int) ≤ (cc : Int) := by omega
        have k2 : (K : Int) ≤ (t.length : Int) := by omega
        have k3 : K ≤ cc := by omega
        have hDK : t.length - K = D := hD.symm
        clear i1 i2 v1 v2 p1 p2 l1 l2 hpl hr hokA hN hD
        go_upto_region 14 with fail
        go_cut [16, 17] (fun s16 s17 wx => ∃ B : Nat, s16 = .pointer (some ⟨B, 0, none⟩) ∧ s17 = .int .i64 (K : Nat) ∧ Bx wx B 25 #[.int .i64 A0, .int .i64 A1, .int .i64 A2, .int .i64 A3, .int .i64 A4, .int .i64 A5, .int .i64 A6] ∧ w8.grownBy wx none)
        case first =>
          have br0 := H8.out.2.2.1.c 0 (x := .int .i64 m) rfl
          have br1 := H8.out.2.2.1.c 1 (x := .int .i64 y) rfl
          have br2 := H8.out.2.2.1.c 2 (x := .int .i64 l) rfl
          have br3 := H8.out.2.2.1.c 3 (x := .int .i64 p) rfl
          have br4 := H8.out.2.2.1.c 4 (x := .int .i64 d) rfl
          have br5 := H8.out.2.2.1.c 5 (x := .int .i64 o) rfl
          have br6 := H8.out.2.2.1.c 6 (x := .int .i64 g) rfl
          have lr := H8.out.2.2.1.lt
          by_cases hc0 : cc = 0
          · have hK0 : K = 0 := by omega
            subst hK0
            subst hc0
            go_region_with (first | (go_at_call 6; refine (HI1.out _ _ _ ?_).mono ?_; exact (H8.out.1.take _).kept (by first | with_reducible exact World.grownBy.refl _ _ | with_reducible exact grownBy_drew | with_reducible exact World.grownBy_alloc _ _ none | with_reducible exact grownBy_trans grownBy_drew (World.grownBy_alloc _ _ none) | with_reducible exact grownBy_trans (World.grownBy_alloc _ _ none) grownBy_drew); rintro e w9 ⟨rfl, hg⟩; have G9 := Lib.hid (show w8.grownBy w9 none from (by first | with_reducible exact hg | with_reducible exact grownBy_trans grownBy_drew hg | with_reducible exact grownBy_trans (World.grownBy_alloc _ _ _) hg | with_reducible exact grownBy_trans grownBy_drew (grownBy_trans (World.grownBy_alloc _ _ _) hg) | with_reducible exact grownBy_trans (World.grownBy_alloc _ _ _) (grownBy_trans grownBy_drew hg))); (first | have xc := Lib.hid ((Bx.new _ 25 #[.int .i64 0, .int .i64 0, .int .i64 0, .int .i64 0, .int .i64 0, .int .i64 0, .int .i64 0]).keep hg) | have xc := Lib.hid (((Bx.new _ 25 #[.int .i64 0, .int .i64 0, .int .i64 0, .int .i64 0, .int .i64 0, .int .i64 0, .int .i64 0]).keep (grownBy_drew (r := none))).keep hg) | skip); clear hg; try (have q0 := xc.out.c 0 (x := .int .i64 0) rfl; have q1 := xc.out.c 1 (x := .int .i64 0) rfl; have q2 := xc.out.c 2 (x := .int .i64 0) rfl; have q3 := xc.out.c 3 (x := .int .i64 0) rfl; have q4 := xc.out.c 4 (x := .int .i64 0) rfl; have q5 := xc.out.c 5 (x := .int .i64 0) rfl; have q6 := xc.out.c 6 (x := .int .i64 0) rfl; have qf0 := xc.out.f 0; have qf1 := xc.out.f 1; have qf2 := xc.out.f 2; have qf3 := xc.out.f 3; have qf4 := xc.out.f 4; have qf5 := xc.out.f 5; have qf6 := xc.out.f 6)))
            all_goals
              go_wp2_with fail
              go_meet
              first
                | exact ⟨_, rfl, rfl, by with_reducible exact Bx.new _ _ _, by with_reducible exact grownBy_trans G9.out (World.grownBy_alloc _ _ none)⟩
                | exact ⟨_, rfl, rfl, by with_reducible exact set7 xc.out _ _ _ _ _ _ _, by with_reducible exact gsets G9.out (Nat.le_refl _)⟩
          · have hc3 : 0 < cc := by omega
            go_region_with (first | (go_at_call 6; refine (HI1.out _ _ _ ?_).mono ?_; exact (H8.out.1.take _).kept (by first | with_reducible exact World.grownBy.refl _ _ | with_reducible exact grownBy_drew | with_reducible exact World.grownBy_alloc _ _ none | with_reducible exact grownBy_trans grownBy_drew (World.grownBy_alloc _ _ none) | with_reducible exact grownBy_trans (World.grownBy_alloc _ _ none) grownBy_drew); rintro e w9 ⟨rfl, hg⟩; have G9 := Lib.hid (show w8.grownBy w9 none from (by first | with_reducible exact hg | with_reducible exact grownBy_trans grownBy_drew hg | with_reducible exact grownBy_trans (World.grownBy_alloc _ _ _) hg | with_reducible exact grownBy_trans grownBy_drew (grownBy_trans (World.grownBy_alloc _ _ _) hg) | with_reducible exact grownBy_trans (World.grownBy_alloc _ _ _) (grownBy_trans grownBy_drew hg))); (first | have xc := Lib.hid ((Bx.new _ 25 #[.int .i64 0, .int .i64 0, .int .i64 0, .int .i64 0, .int .i64 0, .int .i64 0, .int .i64 0]).keep hg) | have xc := Lib.hid (((Bx.new _ 25 #[.int .i64 0, .int .i64 0, .int .i64 0, .int .i64 0, .int .i64 0, .int .i64 0, .int .i64 0]).keep (grownBy_drew (r := none))).keep hg) | skip); clear hg; try (have q0 := xc.out.c 0 (x := .int .i64 0) rfl; have q1 := xc.out.c 1 (x := .int .i64 0) rfl; have q2 := xc.out.c 2 (x := .int .i64 0) rfl; have q3 := xc.out.c 3 (x := .int .i64 0) rfl; have q4 := xc.out.c 4 (x := .int .i64 0) rfl; have q5 := xc.out.c 5 (x := .int .i64 0) rfl; have q6 := xc.out.c 6 (x := .int .i64 0) rfl; have qf0 := xc.out.f 0; have qf1 := xc.out.f 1; have qf2 := xc.out.f 2; have qf3 := xc.out.f 3; have qf4 := xc.out.f 4; have qf5 := xc.out.f 5; have qf6 := xc.out.f 6)))
            all_goals
              go_wp2_with fail
              go_meet
              first
                | exact ⟨_, rfl, rfl, by with_reducible exact Bx.new _ _ _, by with_reducible exact grownBy_trans G9.out (World.grownBy_alloc _ _ none)⟩
                | exact ⟨_, rfl, rfl, by with_reducible exact set7 xc.out _ _ _ _ _ _ _, by with_reducible exact gsets G9.out (Nat.le_refl _)⟩
        case rest =>
          obtain ⟨B, rfl, rfl, hbx, hg⟩ := hcut
          have HX1 := Lib.hid (And.intro (H8.out.1.kept hg) (And.intro (grownBy_trans H8.out.2.1 hg) (And.intro (H8.out.2.2.2.keep hg) hbx)))
          clear hg hbx
          generalize hwc : wc = w10 at *
          clear hwc
          by_cases hck : cc = K
          · obtain rfl : K = cc := hck.symm
            have htk : t.drop K = [] := List.drop_eq_nil_of_le (by omega)
            have HEd := Lib.hid (show ∀ a, EvAt w10 a (t.drop K) from fun _ => .inl htk)
            clear htk
            go_upto_region 16 with fail
            go_cut [18, 19] (fun s18 s19 wx => ∃ B : Nat, s18 = .pointer (some ⟨B, 0, none⟩) ∧ s19 = .int .i64 (D : Nat) ∧ Bx wx B 25 #[.int .i64 R0, .int .i64 R1, .int .i64 R2, .int .i64 R3, .int .i64 R4, .int .i64 R5, .int .i64 R6] ∧ w10.grownBy wx none)
            case first =>
              have br0 := HX1.out.2.2.2.c 0 (x := .int .i64 A0) rfl
              have br1 := HX1.out.2.2.2.c 1 (x := .int .i64 A1) rfl
              have br2 := HX1.out.2.2.2.c 2 (x := .int .i64 A2) rfl
              have br3 := HX1.out.2.2.2.c 3 (x := .int .i64 A3) rfl
              have br4 := HX1.out.2.2.2.c 4 (x := .int .i64 A4) rfl
              have br5 := HX1.out.2.2.2.c 5 (x := .int .i64 A5) rfl
              have br6 := HX1.out.2.2.2.c 6 (x := .int .i64 A6) rfl
              have lr := HX1.out.2.2.2.lt
              go_region_with (first | (go_at_call 6; refine (HI2.out _ _ _ ?_).mono ?_; exact (HEd.out _).kept (by first | with_reducible exact World.grownBy.refl _ _ | with_reducible exact grownBy_drew | with_reducible exact World.grownBy_alloc _ _ none | with_reducible exact grownBy_trans grownBy_drew (World.grownBy_alloc _ _ none) | with_reducible exact grownBy_trans (World.grownBy_alloc _ _ none) grownBy_drew); rintro e w11 ⟨rfl, hg⟩; have G9 := Lib.hid (show w10.grownBy w11 none from (by first | with_reducible exact hg | with_reducible exact grownBy_trans grownBy_drew hg | with_reducible exact grownBy_trans (World.grownBy_alloc _ _ _) hg | with_reducible exact grownBy_trans grownBy_drew (grownBy_trans (World.grownBy_alloc _ _ _) hg) | with_reducible exact grownBy_trans (World.grownBy_alloc _ _ _) (grownBy_trans grownBy_drew hg))); (first | have xc := Lib.hid ((Bx.new _ 25 #[.int .i64 0, .int .i64 0, .int .i64 0, .int .i64 0, .int .i64 0, .int .i64 0, .int .i64 0]).keep hg) | have xc := Lib.hid (((Bx.new _ 25 #[.int .i64 0, .int .i64 0, .int .i64 0, .int .i64 0, .int .i64 0, .int .i64 0, .int .i64 0]).keep (grownBy_drew (r := none))).keep hg) | skip); clear hg; try (have q0 := xc.out.c 0 (x := .int .i64 0) rfl; have q1 := xc.out.c 1 (x := .int .i64 0) rfl; have q2 := xc.out.c 2 (x := .int .i64 0) rfl; have q3 := xc.out.c 3 (x := .int .i64 0) rfl; have q4 := xc.out.c 4 (x := .int .i64 0) rfl; have q5 := xc.out.c 5 (x := .int .i64 0) rfl; have q6 := xc.out.c 6 (x := .int .i64 0) rfl; have qf0 := xc.out.f 0; have qf1 := xc.out.f 1; have qf2 := xc.out.f 2; have qf3 := xc.out.f 3; have qf4 := xc.out.f 4; have qf5 := xc.out.f 5; have qf6 := xc.out.f 6)))
              all_goals
                go_wp2_with fail
                go_meet
                first
                  | exact ⟨_, rfl, rfl, by with_reducible exact Bx.new _ _ _, by with_reducible exact grownBy_trans G9.out (World.grownBy_alloc _ _ none)⟩
                  | exact ⟨_, rfl, rfl, by with_reducible exact set7 xc.out _ _ _ _ _ _ _, by with_reducible exact gsets G9.out (Nat.le_refl _)⟩
            case rest =>
              obtain ⟨B2, rfl, rfl, hbx, hg⟩ := hcut
              have HX2 := Lib.hid (And.intro (grownBy_trans HX1.out.2.1 hg) (And.intro (HX1.out.2.2.1.keep hg) hbx))
              clear hg hbx
              have fn0 := HX2.out.2.1.c 0 (x := .int .i64 R0) rfl
              have fn1 := HX2.out.2.1.c 1 (x := .int .i64 R1) rfl
              have fn2 := HX2.out.2.1.c 2 (x := .int .i64 R2) rfl
              have fn3 := HX2.out.2.1.c 3 (x := .int .i64 R3) rfl
              have fn4 := HX2.out.2.1.c 4 (x := .int .i64 R4) rfl
              have fn5 := HX2.out.2.1.c 5 (x := .int .i64 R5) rfl
              have fn6 := HX2.out.2.1.c 6 (x := .int .i64 R6) rfl
              have fb0 := HX2.out.2.2.c 0 (x := .int .i64 R0) rfl
              have fb1 := HX2.out.2.2.c 1 (x := .int .i64 R1) rfl
              have fb2 := HX2.out.2.2.c 2 (x := .int .i64 R2) rfl
              have fb3 := HX2.out.2.2.c 3 (x := .int .i64 R3) rfl
              have fb4 := HX2.out.2.2.c 4 (x := .int .i64 R4) rfl
              have fb5 := HX2.out.2.2.c 5 (x := .int .i64 R5) rfl
              have fb6 := HX2.out.2.2.c 6 (x := .int .i64 R6) rfl
              go_wp2_with fail
              go_ret
              exact ⟨rfl, below_new HX2.out.1⟩
          · have hck2 : ¬ (cc : Int) = (K : Int) := by omega
            have hck3 : K < cc := by omega
            have HEd := Lib.hid (show EvAt w10 (some ⟨gg, K * 5, none⟩) (t.drop K) from by simpa using HX1.out.1.drop K)
            go_upto_region 16 with fail
            go_cut [18, 19] (fun s18 s19 wx => ∃ B : Nat, s18 = .pointer (some ⟨B, 0, none⟩) ∧ s19 = .int .i64 (D : Nat) ∧ Bx wx B 25 #[.int .i64 R0, .int .i64 R1, .int .i64 R2, .int .i64 R3, .int .i64 R4, .int .i64 R5, .int .i64 R6] ∧ w10.grownBy wx none)
            case first =>
              have br0 := HX1.out.2.2.2.c 0 (x := .int .i64 A0) rfl
              have br1 := HX1.out.2.2.2.c 1 (x := .int .i64 A1) rfl
              have br2 := HX1.out.2.2.2.c 2 (x := .int .i64 A2) rfl
              have br3 := HX1.out.2.2.2.c 3 (x := .int .i64 A3) rfl
              have br4 := HX1.out.2.2.2.c 4 (x := .int .i64 A4) rfl
              have br5 := HX1.out.2.2.2.c 5 (x := .int .i64 A5) rfl
              have br6 := HX1.out.2.2.2.c 6 (x := .int .i64 A6) rfl
              have lr := HX1.out.2.2.2.lt
              go_region_with (first | (go_at_call 6; refine (HI2.out _ _ _ ?_).mono ?_; exact (HEd.out).kept (by first | with_reducible exact World.grownBy.refl _ _ | with_reducible exact grownBy_drew | with_reducible exact World.grownBy_alloc _ _ none | with_reducible exact grownBy_trans grownBy_drew (World.grownBy_alloc _ _ none) | with_reducible exact grownBy_trans (World.grownBy_alloc _ _ none) grownBy_drew); rintro e w11 ⟨rfl, hg⟩; have G9 := Lib.hid (show w10.grownBy w11 none from (by first | with_reducible exact hg | with_reducible exact grownBy_trans grownBy_drew hg | with_reducible exact grownBy_trans (World.grownBy_alloc _ _ _) hg | with_reducible exact grownBy_trans grownBy_drew (grownBy_trans (World.grownBy_alloc _ _ _) hg) | with_reducible exact grownBy_trans (World.grownBy_alloc _ _ _) (grownBy_trans grownBy_drew hg))); (first | have xc := Lib.hid ((Bx.new _ 25 #[.int .i64 0, .int .i64 0, .int .i64 0, .int .i64 0, .int .i64 0, .int .i64 0, .int .i64 0]).keep hg) | have xc := Lib.hid (((Bx.new _ 25 #[.int .i64 0, .int .i64 0, .int .i64 0, .int .i64 0, .int .i64 0, .int .i64 0, .int .i64 0]).keep (grownBy_drew (r := none))).keep hg) | skip); clear hg; try (have q0 := xc.out.c 0 (x := .int .i64 0) rfl; have q1 := xc.out.c 1 (x := .int .i64 0) rfl; have q2 := xc.out.c 2 (x := .int .i64 0) rfl; have q3 := xc.out.c 3 (x := .int .i64 0) rfl; have q4 := xc.out.c 4 (x := .int .i64 0) rfl; have q5 := xc.out.c 5 (x := .int .i64 0) rfl; have q6 := xc.out.c 6 (x := .int .i64 0) rfl; have qf0 := xc.out.f 0; have qf1 := xc.out.f 1; have qf2 := xc.out.f 2; have qf3 := xc.out.f 3; have qf4 := xc.out.f 4; have qf5 := xc.out.f 5; have qf6 := xc.out.f 6)))
              all_goals
                go_wp2_with fail
                go_meet
                first
                  | exact ⟨_, rfl, rfl, by with_reducible exact Bx.new _ _ _, by with_reducible exact grownBy_trans G9.out (World.grownBy_alloc _ _ none)⟩
                  | exact ⟨_, rfl, rfl, by with_reducible exact set7 xc.out _ _ _ _ _ _ _, by with_reducible exact gsets G9.out (Nat.le_refl _)⟩
            case rest =>
              obtain ⟨B2, rfl, rfl, hbx, hg⟩ := hcut
              have HX2 := Lib.hid (And.intro (grownBy_trans HX1.out.2.1 hg) (And.intro (HX1.out.2.2.1.keep hg) hbx))
              clear hg hbx
              have fn0 := HX2.out.2.1.c 0 (x := .int .i64 R0) rfl
              have fn1 := HX2.out.2.1.c 1 (x := .int .i64 R1) rfl
              have fn2 := HX2.out.2.1.c 2 (x := .int .i64 R2) rfl
              have fn3 := HX2.out.2.1.c 3 (x := .int .i64 R3) rfl
              have fn4 := HX2.out.2.1.c 4 (x := .int .i64 R4) rfl
              have fn5 := HX2.out.2.1.c 5 (x := .int .i64 R5) rfl
              have fn6 := HX2.out.2.1.c 6 (x := .int .i64 R6) rfl
              have fb0 := HX2.out.2.2.c 0 (x := .int .i64 R0) rfl
              have fb1 := HX2.out.2.2.c 1 (x := .int .i64 R1) rfl
              have fb2 := HX2.out.2.2.c 2 (x := .int .i64 R2) rfl
              have fb3 := HX2.out.2.2.c 3 (x := .int .i64 R3) rfl
              have fb4 := HX2.out.2.2.c 4 (x := .int .i64 R4) rfl
              have fb5 := HX2.out.2.2.c 5 (x := .int .i64 R5) rfl
              have fb6 := HX2.out.2.2.c 6 (x := .int .i64 R6) rfl
              go_wp2_with fail
              go_ret
              exact ⟨rfl, below_new HX2.out.1⟩

set_option maxRecDepth 100000 in
theorem lifted (os : Os) (started : os.Started) (H : Type) (enc : TypeId × Value → H) :
    ReturnsInHanded {} Try.checked os 3 .any (Rows.fnRenoPlaySpec.pre6 enc Try.prog Try.f3 Rows.fnRenoPlayRow.domain false) (Rows.fnRenoPlaySpec.post enc Try.prog Try.f3 false true false false) := by
  refine returnsInHanded_of_change (C := Try.checked) own started (by kernel_rfl) Try.func3
    (ChangeSpec.witness6 (enc := enc) (C := Try.checked) false ⟨#[], #[.slice none 0 0], []⟩ 8 (by kernel_rfl) (by kernel_rfl) (by kernel_rfl) (by kernel_rfl)) ?_
  intro W base args ds gs before hval0 hW hcnd _
  have hval : ∀ (j : Nat) t v, Try.f3.params[j]? = some t → args[j]? = some v → Value.okWide Try.prog W .any base t v := hval0
  have hW' := hW
  obtain ⟨p, q, hA0, hV, rfl, hfz, hnd⟩ := hW
  have hA : DataW.TrodAll enc Try.prog W 0 (fun _ => true) true Try.f3.params.toList args.toList ds p := hA0
  rw [Try.params3] at hA hval
  obtain ⟨v0, vs0, d0, ds0, p0, q0, hargs, rfl, rfl, h0, r0⟩ := trodAll_cons hA
  obtain ⟨rfl, rfl, rfl⟩ := trodAll_nil r0
  obtain rfl : args = #[v0] := by cases args; simp_all
  obtain ⟨rfl, rfl⟩ := trodVars_none hV
  have k0 := h0
  have lt0 : ∀ x ∈ p0, x.block < W.heap.size := by obtain ⟨m, hm⟩ := k0; exact DataW.trod_lt m _ _ _ hm
  obtain ⟨a0, len0, cap0, rfl⟩ := okWide_slice Try.underlying22 (hval 0 22 v0 rfl rfl)
  obtain ⟨z0, w0⟩ : ∃ zs, IsRow .u8 W a0 len0 cap0 zs := by
    obtain ⟨fuel, hf⟩ := h0
    rcases open_ints Try.underlying22 Try.underlying5 (by kernel_rfl) hf with ⟨hcs, _⟩ | ⟨x, l, c, zs, hcs, _, hl, hm, hz, _, hcell, hwz⟩
    · simp [Value.cells] at hcs
      obtain ⟨rfl, rfl, rfl⟩ := hcs
      exact ⟨[], .inl ⟨rfl, rfl, rfl, rfl⟩⟩
    · simp [Value.cells] at hcs
      obtain ⟨rfl, rfl, rfl⟩ := hcs
      exact ⟨zs, .inr ⟨_, rfl, hl, hm, by simpa using hz, hcell, hwz⟩⟩
  clear hA0 hval0
  refine (walk a0 len0 cap0 z0 W w0).mono fun e W' ⟨he, bel⟩ => ?_
  subst he
  exact ⟨_, rfl, _, _, _, [], _, [], hW', trodAll_mk1 (shut_bool Try.underlying4 _), (trodAll_cons_mk (Below.trod laidOut (by kernel_rfl) (of_decide_eq_true (by kernel_rfl)) k0 bel lt0) trodAll_mk0), rfl, bel.frame _, fun h => by cases h⟩

theorem over : Rows.fnRenoPlayRow.holds Try.pinned (OpenSpec.ofChange Rows.fnRenoPlaySpec) :=
  OpenClaim.holds_of_wide 3 Try.f3 rfl rfl rfl rfl rfl rfl rfl ⟨rfl, rfl, rfl, rfl, rfl⟩ rfl rfl rfl rfl rfl (by kernel_rfl) Try.func3 (by kernel_rfl)
    (of_decide_eq_true (by kernel_rfl)) (by unfold Func.isWrapper; first | (rw [if_pos (by decide +kernel)]; kernel_rfl) | (rw [if_neg (by decide +kernel)]; exact ⟨rfl, rfl⟩))
    (fun os started H enc _ => lifted os started H enc)

theorem proved : Rows.FnRenoPlaySaid := over
end Go.Proofs.Ytklbnpnngfoecaa.fnRenoPlay
