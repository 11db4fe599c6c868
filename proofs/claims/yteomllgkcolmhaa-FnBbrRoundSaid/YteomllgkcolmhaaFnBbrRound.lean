/- For every code the law FnBbrRound answers true and leaves its argument as it was; no condition. -/
import Derived.Test.YteomllgkcolmhaaRows
import Derived.Test.YteomllgkcolmhaaDraw
import Derived.Test.YteomllgkcolmhaaBbF
import Derived.WalkKit
import Derived.ProofKit
import Derived.OpenShut
import Derived.ShutString
import Derived.ChangeOld
import Derived.Below
import Derived.Lib.SmallJoins
namespace Go.Proofs.Yteomllgkcolmhaa.fnBbrRound
open Go.ChangeShapes Go.WideShapes Go.ChangeAt Go.RowKit Go.Joins
open Go.ChangeMaps (open_string shut_string)
set_option linter.unusedVariables false

theorem own : ownKnob Try.prog.godebug = none := by kernel_rfl
theorem laidOut : laidOutB Try.prog = true := by kernel_rfl


def IsRow (k : IntKind) (w : World) (a : Option Addr) (len cap : Nat) (zs : List Int) : Prop :=
  (a = none ∧ len = 0 ∧ cap = 0 ∧ zs = []) ∨
  ∃ x, a = some x ∧ len ≤ cap ∧ cap ≤ maxLen ∧ zs.length = cap ∧ (∀ i, i < zs.length → w.cell? (x.add i) = some (.int k (zs.getD i 0))) ∧ ∀ n ∈ zs, (Lit.int k n).wf = true

def St (W : World) (B : Nat) (p : Int) (a : Option Addr) (c : Nat) (l : List Rg) (R f s t : Int) : Prop := Bx W B 26 (bbC p a l.length c R f s t) ∧ RgAt W a l
theorem St.keep {W W' : World} {B : Nat} {p : Int} {a : Option Addr} {c : Nat} {l : List Rg} {R f s t : Int} (h : St W B p a c l R f s t) (hg : W.grownBy W' none) : St W' B p a c l R f s t := ⟨h.1.keep hg, h.2.kept hg⟩
theorem st_new {W : World} {p : Int} {a : Option Addr} {c : Nat} {l : List Rg} {R f s t : Int} (h : RgAt W a l) : St (W.alloc (.cells (bbC p a l.length c R f s t) 26)) W.heap.size p a c l R f s t := ⟨Bx.new _ _ _, h.kept (World.grownBy_alloc W _ none)⟩
structure Lx (w : World) (B : Nat) (p : Int) (a : Option Addr) (c : Nat) (l : List Rg) (R f s t tx rx : Int) (W : World) : Prop where
  g : w.grownBy W none
  b : St W B p a c l R f s t
  x : Bx W (B + 1) 28 #[.int .i64 tx, .int .i64 rx]
theorem Lx.keep {w W W' : World} {B : Nat} {p : Int} {a : Option Addr} {c : Nat} {l : List Rg} {R f s t tx rx : Int} (h : Lx w B p a c l R f s t tx rx W) (hg : W.grownBy W' none) : Lx w B p a c l R f s t tx rx W' := ⟨grownBy_trans h.g hg, h.b.keep hg, h.x.keep hg⟩
theorem lx_new {w W : World} {p : Int} {a : Option Addr} {c : Nat} {l : List Rg} {R f s t tx rx : Int} (h : w.grownBy W none) (k : RgAt W a l) : Lx w W.heap.size p a c l R f s t tx rx ((W.alloc (.cells (bbC p a l.length c R f s t) 26)).alloc (.cells #[.int .i64 tx, .int .i64 rx] 28)) := by
  have g1 := World.grownBy_alloc W (.cells (bbC p a l.length c R f s t) 26) none
  have h1 : St (W.alloc (.cells (bbC p a l.length c R f s t) 26)) W.heap.size p a c l R f s t := st_new k
  have hx := Bx.new (W.alloc (.cells (bbC p a l.length c R f s t) 26)) 28 #[.int .i64 tx, .int .i64 rx]
  rw [World.size_alloc] at hx
  exact ⟨gA (grownBy_trans h g1) _, h1.keep (World.grownBy_alloc _ _ none), hx⟩
theorem keep5 {w W W' : World} {B BN BM BY BV : Nat} {p : Int} {a : Option Addr} {c : Nat} {l : List Rg} {R f s t tx rx : Int} {p1 : Int} {a1 : Option Addr} {c1 : Nat} {l1 : List Rg} {R1 f1 s1 t1 : Int} {p2 : Int} {a2 : Option Addr} {c2 : Nat} {l2 : List Rg} {R2 f2 s2 t2 : Int} {p3 : Int} {a3 : Option Addr} {c3 : Nat} {l3 : List Rg} {R3 f3 s3 t3 : Int} {p4 : Int} {a4 : Option Addr} {c4 : Nat} {l4 : List Rg} {R4 f4 s4 t4 : Int}
    (h : Lx w B p a c l R f s t tx rx W ∧ St W BN p1 a1 c1 l1 R1 f1 s1 t1 ∧ St W BM p2 a2 c2 l2 R2 f2 s2 t2 ∧ St W BY p3 a3 c3 l3 R3 f3 s3 t3 ∧ St W BV p4 a4 c4 l4 R4 f4 s4 t4) (hg : W.grownBy W' none) : Lx w B p a c l R f s t tx rx W' ∧ St W' BN p1 a1 c1 l1 R1 f1 s1 t1 ∧ St W' BM p2 a2 c2 l2 R2 f2 s2 t2 ∧ St W' BY p3 a3 c3 l3 R3 f3 s3 t3 ∧ St W' BV p4 a4 c4 l4 R4 f4 s4 t4 :=
  ⟨h.1.keep hg, h.2.1.keep hg, h.2.2.1.keep hg, h.2.2.2.1.keep hg, h.2.2.2.2.keep hg⟩
structure Rl (w : World) (BN BX BW : Nat) (a1 : Option Addr) (c1 : Nat) (M : List Rg) (R F S T tx rx : Int) (a : Option Addr) (c : Nat) (l : List Rg) (t : Int) (W : World) : Prop where
  g : w.grownBy W none
  n : Bx W BN 26 (bbC 3 a1 M.length c1 R F S T)
  no : OwnRg W w.heap.size a1 c1 M
  nn : (Value.slice a1 M.length c1).ownBlock = none ∨ (Value.slice a1 M.length c1).ownBlock ≠ some BW
  x : Bx W BX 28 #[.int .i64 tx, .int .i64 rx]
  b : Bx W BW 26 (bbC 3 a l.length c R F S t)
  o : OwnRg W w.heap.size a c l
  on : (Value.slice a l.length c).ownBlock = none ∨ (Value.slice a l.length c).ownBlock ≠ some BW
  d1 : w.heap.size ≤ BW
  d2 : BN ≠ BW
  d3 : BX ≠ BW
theorem Rl.keep {w W W' : World} {BN BX BW : Nat} {a1 : Option Addr} {c1 : Nat} {M : List Rg} {R F S T tx rx : Int} {a : Option Addr} {c : Nat} {l : List Rg} {t : Int} (h : Rl w BN BX BW a1 c1 M R F S T tx rx a c l t W) (hg : W.grownBy W' none) : Rl w BN BX BW a1 c1 M R F S T tx rx a c l t W' :=
  ⟨grownBy_trans h.g hg, h.n.keep hg, own_kept h.no hg, h.nn, h.x.keep hg, h.b.keep hg, own_kept h.o hg, h.on, h.d1, h.d2, h.d3⟩
theorem Rl.take {w W : World} {BN BX BW : Nat} {a1 : Option Addr} {c1 : Nat} {M : List Rg} {R F S T tx rx : Int} {a : Option Addr} {c : Nat} {l : List Rg} {t : Int} {C : Nat} {a' : Option Addr} {c' : Nat} {l' : List Rg} {t' : Int} (h : Rl w BN BX BW a1 c1 M R F S T tx rx a c l t W) (ho : OwnRg W C a' c' l') (hC : BW < C) : Rl w BN BX BW a1 c1 M R F S T tx rx a' c' l' t' ((((((W.setCell ⟨BW, 0, none⟩ (.int .i64 3)).setCell ⟨BW, 1, none⟩ (.slice a' l'.length c')).setCell ⟨BW, 2, none⟩ (.int .i64 R)).setCell ⟨BW, 3, none⟩ (.int .i64 F)).setCell ⟨BW, 4, none⟩ (.int .i64 S)).setCell ⟨BW, 5, none⟩ (.int .i64 t')) :=
  have hg := gset6 W BW (.int .i64 3) (.slice a' l'.length c') (.int .i64 R) (.int .i64 F) (.int .i64 S) (.int .i64 t')
  ⟨gS (gS (gS (gS (gS (gS h.g h.d1 0 _) h.d1 1 _) h.d1 2 _) h.d1 3 _) h.d1 4 _) h.d1 5 _, h.n.kept hg (by have := h.d2; simp; omega), World.ownsRow.kept h.no hg h.nn, h.nn, h.x.kept hg (by have := h.d3; simp; omega), set6 h.b _ _ _ _ _ _, own_base (World.ownsRow.kept ho hg (own_geX ho hC)) (by have := h.d1; omega), own_geX ho hC, h.d1, h.d2, h.d3⟩
def RoRel (w : World) (BN BX BW : Nat) (a1 : Option Addr) (c1 : Nat) (M : List Rg) (R F S T tx rx : Int) (i : Value) (wr : World) : Prop :=
  ∃ (j : Nat) (a : Option Addr) (c : Nat), j ≤ 8 ∧ i = .int .i64 j ∧ Rl w BN BX BW a1 c1 M R F S T tx rx a c (rowJ M tx (10 * R) j) ((T + j) % 8) wr
theorem row_len {l : List Rg} {x w : Int} (h : l.length ≤ 20) (j : Nat) : (rowJ l x w j).length ≤ 21 := by
  cases j with
  | zero => exact Nat.le_succ_of_le h
  | succ j => have := addF_len l (x, 0) w; simp only [rowJ]; omega

set_option maxRecDepth 100000 in
set_option maxHeartbeats 1500000 in
theorem walk (a0 : Option Addr) (len0 cap0 : Nat) (z0 : List Int) (w : World) (w0 : IsRow .u8 w a0 len0 cap0 z0) :
    Calls Try.prog 4 #[.slice a0 len0 cap0] w fun e w' => e = .returned (.bool true) ∧ Below w.heap.size w w' := by
  have H := Lib.hid (code_of w0)
  clear w0
  go_enter Try.func4, Try.ntmps4
  go_wp2_with fail
  refine (big_any _ _ _ _).mono ?_
  rintro e w' ⟨rfl, rfl⟩
  by_cases hb : 1048576 < len0
  · rw [decide_eq_true hb]
    go_wp2_with fail
    go_ret
    exact ⟨rfl, below_new (World.grownBy.refl _ _)⟩
  · rw [decide_eq_false hb]
    clear hb
    go_wp2_with fail
    refine (draw_bs _ _ _ _ H.out).mono ?_
    rintro e w0 ⟨al, cl, p, l, R, f, s, t, tx, rx, q, fl, rfl, hg, hra, hl⟩
    have H1 := Lib.hid (lx_new (p := p) (R := R) (f := f) (s := s) (t := t) (tx := tx) (rx := rx) (c := cl) hg hra)
    clear hg hra
    obtain ⟨D, hD⟩ : ∃ D, stepOk (⟨p, l, R, f, s, t⟩ : Bb) (tx, rx) q fl = D := ⟨_, rfl⟩
    have hLL := step_more (⟨p, l, R, f, s, t⟩ : Bb) (tx, rx) q fl
    obtain ⟨U, hU⟩ : ∃ U, stepB (⟨p, l, R, f, s, t⟩ : Bb) (tx, rx) q fl = U := ⟨_, rfl⟩
    rw [hU] at hLL
    obtain ⟨P, M, R1, F1, S1, T1⟩ := U
    replace hLL : M.length ≤ 20 := by dsimp only at hLL; omega
    have HSI := Lib.hid (show ∀ (W : World) (b : Option Addr) (cb : Nat), RgAt W b l → Calls Try.prog 7 #[bbV p b l.length cb R f s t, .agg #[.int .i64 tx, .int .i64 rx], .int .i64 q, .int .i64 fl] W (fun e w' => ∃ a c, e = .returned (.tuple #[bbV P a M.length c R1 F1 S1 T1, .bool D]) ∧ W.grownBy w' none ∧ OwnRg w' W.heap.size a c M) from fun W b cb h => by have hq := step_impl p b cb l R f s t tx rx q fl W h (by omega); rw [hU, hD] at hq; exact hq)
    have HSS := Lib.hid (show ∀ (W : World) (b : Option Addr) (cb : Nat), RgAt W b l → Calls Try.prog 8 #[bbV p b l.length cb R f s t, .agg #[.int .i64 tx, .int .i64 rx], .int .i64 q, .int .i64 fl] W (fun e w' => ∃ a c, e = .returned (.tuple #[bbV P a M.length c R1 F1 S1 T1, .bool D]) ∧ W.grownBy w' none ∧ OwnRg w' W.heap.size a c M) from fun W b cb h => by have hq := step_spec p b cb l R f s t tx rx q fl W h (by omega); rw [hU, hD] at hq; exact hq)
    have HU := Lib.hid (And.intro hD hU)
    clear hD hU
    go_wp2_with fail
    generalize (w0.alloc (.cells (bbC p al l.length cl R f s t) 26)).alloc (.cells #[.int .i64 tx, .int .i64 rx] 28) = w1 at *
    generalize w0.heap.size = B0 at *
    refine (HSI.out _ _ _ H1.out.b.2).mono ?_
    rintro e w2 ⟨a1, c1, rfl, hg, ho⟩
    have gX := World.grownBy_alloc w2 (.cells (bbC P a1 M.length c1 R1 F1 S1 T1) 26) none
    have H3 := Lib.hid (And.intro (H1.out.keep (grownBy_trans hg gX)) (st_new (p := P) (c := c1) (R := R1) (f := F1) (s := S1) (t := T1) (rg_own ho)))
    have HO3 := Lib.hid (And.intro (own_kept ho gX) (show w.heap.size ≤ w1.heap.size from H1.out.g.size))
    clear hg ho gX
    have b0 := (H3.out.1.b.1).c 0 rfl
    have b1 := (H3.out.1.b.1).c 1 rfl
    have b2 := (H3.out.1.b.1).c 2 rfl
    have b3 := (H3.out.1.b.1).c 3 rfl
    have b4 := (H3.out.1.b.1).c 4 rfl
    have b5 := (H3.out.1.b.1).c 5 rfl
    have x0 := H3.out.1.x.c 0 rfl
    have x1 := H3.out.1.x.c 1 rfl
    go_wp2_with fail
    generalize w2.alloc (.cells (bbC P a1 M.length c1 R1 F1 S1 T1) 26) = w3 at *
    generalize w2.heap.size = BN at *
    refine (HSS.out _ _ _ H3.out.1.b.2).mono ?_
    rintro e w4 ⟨a2, c2, rfl, hg, ho⟩
    clear b0 b1 b2 b3 b4 b5 x0 x1
    have gX := World.grownBy_alloc w4 (.cells (bbC P a2 M.length c2 R1 F1 S1 T1) 26) none
    have H5 := Lib.hid (And.intro (H3.out.1.keep (grownBy_trans hg gX)) (And.intro (H3.out.2.keep (grownBy_trans hg gX)) (st_new (p := P) (c := c2) (R := R1) (f := F1) (s := S1) (t := T1) (rg_own ho))))
    have HO5 := Lib.hid (own_base (own_kept HO3.out.1 (grownBy_trans hg gX)) HO3.out.2)
    clear hg ho gX
    cases D
    · go_wp2_with fail
      go_ret
      exact ⟨by simp, below_new H5.out.1.g⟩
    · have hP := stepOk_of HU.out.1
      have hN : stepN (⟨p, l, R, f, s, t⟩ : Bb) (tx, rx) q fl = ⟨P, M, R1, F1, S1, T1⟩ := by rw [← stepB_yes hP]; exact HU.out.2
      have hG := (step_good hP).1
      have hM := stepN_l (⟨p, l, R, f, s, t⟩ : Bb) (tx, rx) q fl
      rw [hN] at hG hM
      dsimp only at hG hM
      have n0 := H5.out.2.1.1.c 0 rfl
      by_cases h3 : P = 3
      · subst h3
        have hb := bb_of hG
        have hZ : addP M (tx, 0) (10 * R1) := by
          rw [hM]
          exact add_zero hP.2.2.2 (by omega) (by have := hb.2.1; omega)
        have HRS := Lib.hid (fun j => round_step (s := S1) (f := F1) (t := T1) hZ hG j)
        have HT := Lib.hid (show 0 ≤ T1 ∧ T1 < 8 by have := hb.2.2.2; omega)
        have HR := Lib.hid hb.2.1
        clear hP hN hG hM hZ hb n0
        have n0 := (H5.out.2.1.1).c 0 rfl
        have n1 := (H5.out.2.1.1).c 1 rfl
        have n2 := (H5.out.2.1.1).c 2 rfl
        have n3 := (H5.out.2.1.1).c 3 rfl
        have n4 := (H5.out.2.1.1).c 4 rfl
        have n5 := (H5.out.2.1.1).c 5 rfl
        have hsz := H5.out.1.g.size
        have hB := Bx.new (w4.alloc (.cells (bbC 3 a2 M.length c2 R1 F1 S1 T1) 26)) 26 (bbC 3 a1 M.length c1 R1 F1 S1 T1)
        have gX := World.grownBy_alloc (w4.alloc (.cells (bbC 3 a2 M.length c2 R1 F1 S1 T1) 26)) (.cells (bbC 3 a1 M.length c1 R1 F1 S1 T1) 26) none
        have h1 := own_ltX HO5.out (Nat.le_refl _)
        have h2 := H5.out.2.1.1.lt
        have h4 := H5.out.1.x.lt
        rw [World.size_alloc] at hB h1 h2 h4 hsz
        have H6 := Lib.hid (show Rl w BN (B0 + 1) (w4.heap.size + 1) a1 c1 M R1 F1 S1 T1 tx rx a1 c1 M T1 ((w4.alloc (.cells (bbC 3 a2 M.length c2 R1 F1 S1 T1) 26)).alloc (.cells (bbC 3 a1 M.length c1 R1 F1 S1 T1) 26)) from ⟨grownBy_trans H5.out.1.g gX, H5.out.2.1.1.keep gX, own_kept HO5.out gX, h1, H5.out.1.x.keep gX, hB, own_kept HO5.out gX, h1, hsz, by omega, by omega⟩)
        clear hB gX h1 h2 h4 hsz
        go_wp2_with fail
        generalize (w4.alloc (.cells (bbC 3 a2 M.length c2 R1 F1 S1 T1) 26)).alloc (.cells (bbC 3 a1 M.length c1 R1 F1 S1 T1) 26) = w6 at *
        generalize w4.heap.size + 1 = BW at *
        generalize B0 + 1 = BX at *
        go_loopw [12, 13, 14, 15] (fun i s13 s14 s15 wr => RoRel w BN BX BW a1 c1 M R1 F1 S1 T1 tx rx i wr) (fun i _ _ _ _ => 8 - (intOf i).toNat)
        case atStart => exact ⟨0, a1, c1, by omega, rfl, by rw [show (T1 + ((0 : Nat) : Int)) % 8 = T1 from by have := HT.out; omega]; exact H6.out⟩
        case round =>
          clear n0 n1 n2 n3 n4 n5 H6
          obtain ⟨j, a, c, hj, rfl, hr⟩ := hrel
          have HS := Lib.hid hr
          clear hr
          by_cases hlt : j < 8
          · have hlt' : (j : Int) < 8 := by omega
            have hs := HRS.out j
            have hs2 := (HRS.out (j + 1)).1.1
            dsimp only at hs2
            have hN0 : (rowJ M tx (10 * R1) (j + 1)).length ≤ 21 := row_len hLL _
            have hN1 : (rowJ M tx (10 * R1) j).length ≤ 21 := row_len hLL _
            have hNp : 0 < (rowJ M tx (10 * R1) (j + 1)).length := by simp [rowJ, addF]
            have hw := round_win hs2 hNp
            obtain ⟨N, hN⟩ : ∃ N, rowJ M tx (10 * R1) (j + 1) = N := ⟨_, rfl⟩
            obtain ⟨T2, hT2⟩ : ∃ T2, (T1 + ((j + 1 : Nat) : Int)) % 8 = T2 := ⟨_, rfl⟩
            rw [hN, hT2] at hs
            rw [hN] at hw hN0
            rw [hT2] at hw
            have HNT := Lib.hid (And.intro hN hT2)
            clear hN hT2 hs2 hNp
            generalize rowJ M tx (10 * R1) j = L at *
            generalize (T1 + (j : Int)) % 8 = T0 at *
            have HQ := Lib.hid (show ∀ (W : World) (b : Option Addr) (cb : Nat), RgAt W b L → Calls Try.prog 7 #[bbV 3 b L.length cb R1 F1 S1 T0, .agg #[.int .i64 tx, .int .i64 0], .int .i64 R1, .int .i64 0] W (fun e w' => ∃ a c, e = .returned (.tuple #[bbV 3 a N.length c R1 F1 S1 T2, .bool true]) ∧ W.grownBy w' none ∧ OwnRg w' W.heap.size a c N) from fun W b cb h => by have hq := step_impl 3 b cb L R1 F1 S1 T0 tx 0 R1 0 W h (by omega); rw [stepB_yes hs.1, stepOk_yes hs.1, hs.2] at hq; exact hq)
            clear hs
            obtain ⟨k1, k2, k3, k4, k5, k6, k7⟩ := hw
            obtain ⟨Q, hQ⟩ : ∃ Q, bestF N = Q := ⟨_, rfl⟩
            obtain ⟨WW, hWW⟩ : ∃ Q, winF 3 N R1 F1 S1 T2 = Q := ⟨_, rfl⟩
            rw [hQ] at k1 k2 k3
            rw [hWW] at k6 k7
            have HB := Lib.hid hQ
            have HWW := Lib.hid hWW
            clear hQ hWW
            generalize pipeF N R1 = PP at *
            have hq1 : IntKind.i64.wrap (Q * R1) = Q * R1 := IntWalk.i64_in _ (by omega)
            have hq2 : IntKind.i64.wrap ((Q * R1).tdiv 1000) = PP := by rw [Int.tdiv_eq_ediv_of_nonneg k2, k1]; exact IntWalk.i64_in _ (by omega)
            have hq3 : IntKind.i64.wrap (PP * 5) = PP * 5 := IntWalk.i64_in _ (by omega)
            have hq4 : IntKind.i64.wrap ((PP * 5).tdiv 4) = PP * 5 / 4 := by rw [Int.tdiv_eq_ediv_of_nonneg (by omega)]; exact IntWalk.i64_in _ (by omega)
            have hq5 : IntKind.i64.wrap (PP * 5 / 4 + 4) = PP * 5 / 4 + 4 := IntWalk.i64_in _ (by omega)
            have hq6 : IntKind.i64.wrap (PP * 3) = PP * 3 := IntWalk.i64_in _ (by omega)
            have hq7 : IntKind.i64.wrap ((PP * 3).tdiv 4) = PP * 3 / 4 := by rw [Int.tdiv_eq_ediv_of_nonneg (by omega)]; exact IntWalk.i64_in _ (by omega)
            have hq8 : IntKind.i64.wrap (PP * 3 / 4 + 4) = PP * 3 / 4 + 4 := IntWalk.i64_in _ (by omega)
            have hd1 : decide (PP * 5 / 4 + 4 < WW) = false := decide_eq_false (by omega)
            have hd2 : decide (WW < PP * 3 / 4 + 4) = false := decide_eq_false (by omega)
            clear k1 k2 k3 k4 k5
            have b0 := (HS.out.b).c 0 rfl
            have b1 := (HS.out.b).c 1 rfl
            have b2 := (HS.out.b).c 2 rfl
            have b3 := (HS.out.b).c 3 rfl
            have b4 := (HS.out.b).c 4 rfl
            have b5 := (HS.out.b).c 5 rfl
            have x0 := HS.out.x.c 0 rfl
            have n2 := HS.out.n.c 2 rfl
            go_wp2_with fail
            refine (HQ.out _ _ _ (rg_own HS.out.o)).mono ?_
            rintro e w5 ⟨a5, c5, rfl, hg, ho⟩
            clear b0 b1 b2 b3 b4 b5 x0 n2
            have gX := World.grownBy_alloc w5 (.cells (bbC 3 a5 N.length c5 R1 F1 S1 T2) 26) none
            have H5 := Lib.hid (And.intro (HS.out.keep (grownBy_trans hg gX)) (And.intro (Bx.new w5 26 (bbC 3 a5 N.length c5 R1 F1 S1 T2)) (And.intro (own_kept ho gX) HS.out.b.lt)))
            clear hg ho gX
            go_upto_region 13 with fail
            generalize w5.alloc (.cells (bbC 3 a5 N.length c5 R1 F1 S1 T2) 26) = w7 at *
            generalize w5.heap.size = BX5 at *
            have b0 := (H5.out.2.1).c 0 rfl
            have b1 := (H5.out.2.1).c 1 rfl
            have b2 := (H5.out.2.1).c 2 rfl
            have b3 := (H5.out.2.1).c 3 rfl
            have b4 := (H5.out.2.1).c 4 rfl
            have b5 := (H5.out.2.1).c 5 rfl
            refine wp_region_held_drew (S := fun w' => w'.cell? ⟨BX5, 0, none⟩ = some (.int .i64 3) ∧ w'.cell? ⟨BX5, 1, none⟩ = some (.slice a5 N.length c5) ∧ w'.cell? ⟨BX5, 2, none⟩ = some (.int .i64 R1) ∧ w'.cell? ⟨BX5, 3, none⟩ = some (.int .i64 F1) ∧ w'.cell? ⟨BX5, 4, none⟩ = some (.int .i64 S1) ∧ w'.cell? ⟨BX5, 5, none⟩ = some (.int .i64 T2) ∧ w7.grownBy w' none) (by kernel_rfl) (⟨by first | assumption | (go_simp; done) | (simp [*]; done), by first | assumption | (go_simp; done) | (simp [*]; done), by first | assumption | (go_simp; done) | (simp [*]; done), by first | assumption | (go_simp; done) | (simp [*]; done), by first | assumption | (go_simp; done) | (simp [*]; done), by first | assumption | (go_simp; done) | (simp [*]; done), grownBy_trans (World.grownBy.refl _ _) grownBy_drew⟩) (fun hS => ?_)
            refine wpAnyH_take (i := 0) (v := ?_) rfl (by kernel_rfl) (by kernel_rfl) (by kernel_rfl) (fun _ _ _ h => h) (Or.inl ⟨by kernel_rfl, ?_⟩) hS ?_
            rotate_left
            · intro w' hSw
              obtain ⟨g0, g1, g2, g3, g4, g5, _⟩ := hSw
              first | (go_simp; done) | (go_simp; with_reducible rfl)
            simp only [List.getElem_toArray, List.getElem_cons_zero, Act.put, List.setIfInBounds_toArray, List.set_cons_zero, List.set_cons_succ]
            refine wpAnyH_take (i := 1) (v := ?_) rfl (by kernel_rfl) (by kernel_rfl) (by kernel_rfl) (fun _ _ _ h => h) (Or.inl ⟨by kernel_rfl, ?_⟩) hS ?_
            rotate_left
            · intro w' hSw
              obtain ⟨g0, g1, g2, g3, g4, g5, _⟩ := hSw
              first | (go_simp; done) | (go_simp; with_reducible rfl)
            simp only [List.getElem_toArray, List.getElem_cons_zero, List.getElem_cons_succ, Act.put, List.setIfInBounds_toArray, List.set_cons_zero, List.set_cons_succ]
            refine wpAnyH_take (i := 3) (v := ?_) rfl (by kernel_rfl) (by kernel_rfl) (by kernel_rfl) (fun _ _ _ h => h) (Or.inl ⟨by kernel_rfl, ?_⟩) hS ?_
            rotate_left
            · intro w' hSw
              obtain ⟨g0, g1, g2, g3, g4, g5, _⟩ := hSw
              first | (go_simp; done) | (go_simp; with_reducible rfl)
            simp only [List.getElem_toArray, List.getElem_cons_zero, List.getElem_cons_succ, Act.put, List.setIfInBounds_toArray, List.set_cons_zero, List.set_cons_succ]
            refine wpAnyH_take (i := 4) (v := ?_) rfl (by kernel_rfl) (by kernel_rfl) (by kernel_rfl) (fun _ _ _ h => h) (Or.inl ⟨by kernel_rfl, ?_⟩) hS ?_
            rotate_left
            · intro w' hSw
              obtain ⟨g0, g1, g2, g3, g4, g5, _⟩ := hSw
              first | (go_simp; done) | (go_simp; with_reducible rfl)
            simp only [List.getElem_toArray, List.getElem_cons_zero, List.getElem_cons_succ, Act.put, List.setIfInBounds_toArray, List.set_cons_zero, List.set_cons_succ]
            refine wpAnyH_ready (rs := [2]) (by kernel_rfl) (List.cons_ne_nil _ _) ?_
            refine AllReadyH.cons rfl (fun K hK => ?_) AllReadyH.nil
            go_simp
            go_at_call 16
            refine (best_impl _ _ N _ (rg_own (own_kept H5.out.2.2.1 (hS.2.2.2.2.2.2))) (by omega)).mono ?_
            rintro e w8 ⟨rfl, hg⟩
            rw [HB.out]
            refine hK.out _ _ (⟨hg.cell (hS.1) (by simp), hg.cell (hS.2.1) (by simp), hg.cell (hS.2.2.1) (by simp), hg.cell (hS.2.2.2.1) (by simp), hg.cell (hS.2.2.2.2.1) (by simp), hg.cell (hS.2.2.2.2.2.1) (by simp), grownBy_trans (hS.2.2.2.2.2.2) hg⟩) (fun hS => ?_)
            clear hK
            try simp only [List.getElem_toArray, List.getElem_cons_zero, List.getElem_cons_succ, Act.put, List.setIfInBounds_toArray, List.set_cons_zero, List.set_cons_succ]
            refine wpAnyH_take (i := 5) (v := ?_) rfl (by kernel_rfl) (by kernel_rfl) (by kernel_rfl) (fun _ _ _ h => h) (Or.inl ⟨by kernel_rfl, ?_⟩) hS ?_
            rotate_left
            · intro w' hSw
              obtain ⟨g0, g1, g2, g3, g4, g5, _⟩ := hSw
              first | (go_simp; done) | (go_simp; with_reducible rfl)
            simp only [List.getElem_toArray, List.getElem_cons_zero, List.getElem_cons_succ, Act.put, List.setIfInBounds_toArray, List.set_cons_zero, List.set_cons_succ]
            refine wpAnyH_take (i := 6) (v := ?_) rfl (by kernel_rfl) (by kernel_rfl) (by kernel_rfl) (fun _ _ _ h => h) (Or.inl ⟨by kernel_rfl, ?_⟩) hS ?_
            rotate_left
            · intro w' hSw
              obtain ⟨g0, g1, g2, g3, g4, g5, _⟩ := hSw
              first | (go_simp; done) | (go_simp; with_reducible rfl)
            simp only [List.getElem_toArray, List.getElem_cons_zero, List.getElem_cons_succ, Act.put, List.setIfInBounds_toArray, List.set_cons_zero, List.set_cons_succ]
            refine wpAnyH_take (i := 7) (v := ?_) rfl (by kernel_rfl) (by kernel_rfl) (by kernel_rfl) (fun _ _ _ h => h) (Or.inl ⟨by kernel_rfl, ?_⟩) hS ?_
            rotate_left
            · intro w' hSw
              obtain ⟨g0, g1, g2, g3, g4, g5, _⟩ := hSw
              first | (go_simp; done) | (go_simp; with_reducible rfl)
            simp only [List.getElem_toArray, List.getElem_cons_zero, List.getElem_cons_succ, Act.put, List.setIfInBounds_toArray, List.set_cons_zero, List.set_cons_succ]
            refine wpAnyH_done (by kernel_rfl) ?_ _
            have hgw := hS.2.2.2.2.2.2
            have H8 := Lib.hid (And.intro (H5.out.1.keep hgw) (And.intro (H5.out.2.1.keep hgw) (And.intro (own_kept H5.out.2.2.1 hgw) H5.out.2.2.2)))
            clear hgw H5
            clear b0 b1 b2 b3 b4 b5
            have b0 := (H8.out.2.1).c 0 rfl
            have b1 := (H8.out.2.1).c 1 rfl
            have b2 := (H8.out.2.1).c 2 rfl
            have b3 := (H8.out.2.1).c 3 rfl
            have b4 := (H8.out.2.1).c 4 rfl
            have b5 := (H8.out.2.1).c 5 rfl
            go_wp2_with fail
            refine (win_impl _ _ _ _ _ _ _ _ _ (rg_own H8.out.2.2.1) (by omega)).mono ?_
            rintro e w9 ⟨rfl, hg⟩
            rw [HWW.out]
            have H9 := Lib.hid (And.intro (H8.out.1.keep hg) (And.intro (H8.out.2.1.keep hg) (And.intro (own_kept H8.out.2.2.1 hg) H8.out.2.2.2)))
            clear hg H8
            clear b0 b1 b2 b3 b4 b5
            have b0 := (H9.out.2.1).c 0 rfl
            have b1 := (H9.out.2.1).c 1 rfl
            have b2 := (H9.out.2.1).c 2 rfl
            have b3 := (H9.out.2.1).c 3 rfl
            have b4 := (H9.out.2.1).c 4 rfl
            have b5 := (H9.out.2.1).c 5 rfl
            go_wp2_with fail
            refine (win_impl _ _ _ _ _ _ _ _ _ (rg_own H9.out.2.2.1) (by omega)).mono ?_
            rintro e w10 ⟨rfl, hg⟩
            rw [HWW.out]
            have HA := Lib.hid (And.intro (H9.out.1.keep hg) (And.intro (H9.out.2.1.keep hg) (And.intro (own_kept H9.out.2.2.1 hg) H9.out.2.2.2)))
            have HTK := Lib.hid (HA.out.1.take (t' := T2) HA.out.2.2.1 HA.out.2.2.2)
            clear hg H9
            clear b0 b1 b2 b3 b4 b5
            have b0 := (HA.out.2.1).c 0 rfl
            have b1 := (HA.out.2.1).c 1 rfl
            have b2 := (HA.out.2.1).c 2 rfl
            have b3 := (HA.out.2.1).c 3 rfl
            have b4 := (HA.out.2.1).c 4 rfl
            have b5 := (HA.out.2.1).c 5 rfl
            have y0 := (HA.out.1.b).c 0 rfl
            have y1 := (HA.out.1.b).c 1 rfl
            have y2 := (HA.out.1.b).c 2 rfl
            have y3 := (HA.out.1.b).c 3 rfl
            have y4 := (HA.out.1.b).c 4 rfl
            have y5 := (HA.out.1.b).c 5 rfl
            have z0 := (HA.out.1.b).f 0
            have z1 := (HA.out.1.b).f 1
            have z2 := (HA.out.1.b).f 2
            have z3 := (HA.out.1.b).f 3
            have z4 := (HA.out.1.b).f 4
            have z5 := (HA.out.1.b).f 5
            go_wp2_with fail
            go_roundw
            case rel => exact ⟨j + 1, a5, c5, hlt, by go_num, by rw [HNT.out.1, HNT.out.2]; exact HTK.out⟩
            case measure => simp [intOf]; omega
          · obtain rfl : j = 8 := by omega
            have e8 : (T1 + ((8 : Nat) : Int)) % 8 = T1 := by have := HT.out; omega
            have b5 := HS.out.b.c 5 rfl
            have n5 := HS.out.n.c 5 rfl
            rw [e8] at b5
            go_wp2_with fail
            go_ret
            exact ⟨by simp, below_new HS.out.g⟩
      · have hne : (P == 3) = false := by simpa using h3
        have hne2 : (P != 3) = true := by simpa using h3
        clear hP hN hG hM
        go_wp2_with fail
        go_ret
        exact ⟨by simp, below_new H5.out.1.g⟩

set_option maxRecDepth 100000 in
theorem lifted (os : Os) (started : os.Started) (H : Type) (enc : TypeId × Value → H) :
    ReturnsInHanded {} Try.checked os 4 .any (Rows.fnBbrRoundSpec.pre6 enc Try.prog Try.f4 Rows.fnBbrRoundRow.domain false) (Rows.fnBbrRoundSpec.post enc Try.prog Try.f4 false true false false) := by
  refine returnsInHanded_of_change (C := Try.checked) own started (by kernel_rfl) Try.func4
    (ChangeSpec.witness6 (enc := enc) (C := Try.checked) false ⟨#[], #[.slice none 0 0], []⟩ 8 (by kernel_rfl) (by kernel_rfl) (by kernel_rfl) (by kernel_rfl)) ?_
  intro W base args ds gs before hval0 hW hcnd _
  have hval : ∀ (j : Nat) t v, Try.f4.params[j]? = some t → args[j]? = some v → Value.okWide Try.prog W .any base t v := hval0
  have hW' := hW
  obtain ⟨p, q, hA0, hV, rfl, hfz, hnd⟩ := hW
  have hA : DataW.TrodAll enc Try.prog W 0 (fun _ => true) true Try.f4.params.toList args.toList ds p := hA0
  rw [Try.params4] at hA hval
  obtain ⟨v0, vs0, d0, ds0, p0, q0, hargs, rfl, rfl, h0, r0⟩ := trodAll_cons hA
  obtain ⟨rfl, rfl, rfl⟩ := trodAll_nil r0
  obtain rfl : args = #[v0] := by cases args; simp_all
  obtain ⟨rfl, rfl⟩ := trodVars_none hV
  have k0 := h0
  have lt0 : ∀ x ∈ p0, x.block < W.heap.size := by obtain ⟨m, hm⟩ := k0; exact DataW.trod_lt m _ _ _ hm
  obtain ⟨a0, len0, cap0, rfl⟩ := okWide_slice Try.underlying22 (hval 0 22 v0 rfl rfl)
  obtain ⟨z0, w0⟩ : ∃ zs, IsRow .u8 W a0 len0 cap0 zs := by
    obtain ⟨fuel, hf⟩ := h0
    rcases open_ints Try.underlying22 Try.underlying5 (by kernel_rfl) hf with ⟨hcs, _⟩ | ⟨x, l, c, zs, hcs, _, hl, hm, hz, _, hcell, hwz⟩
    · simp [Value.cells] at hcs
      obtain ⟨rfl, rfl, rfl⟩ := hcs
      exact ⟨[], .inl ⟨rfl, rfl, rfl, rfl⟩⟩
    · simp [Value.cells] at hcs
      obtain ⟨rfl, rfl, rfl⟩ := hcs
      exact ⟨zs, .inr ⟨_, rfl, hl, hm, by simpa using hz, hcell, hwz⟩⟩
  clear hA0 hval0
  refine (walk a0 len0 cap0 z0 W w0).mono fun e W' ⟨he, bel⟩ => ?_
  subst he
  exact ⟨_, rfl, _, _, _, [], _, [], hW', trodAll_mk1 (shut_bool Try.underlying4 _), (trodAll_cons_mk (Below.trod laidOut (by kernel_rfl) (of_decide_eq_true (by kernel_rfl)) k0 bel lt0) trodAll_mk0), rfl, bel.frame _, fun h => by cases h⟩

theorem over : Rows.fnBbrRoundRow.holds Try.pinned (OpenSpec.ofChange Rows.fnBbrRoundSpec) :=
  OpenClaim.holds_of_wide 4 Try.f4 rfl rfl rfl rfl rfl rfl rfl ⟨rfl, rfl, rfl, rfl, rfl⟩ rfl rfl rfl rfl rfl (by kernel_rfl) Try.func4 (by kernel_rfl)
    (of_decide_eq_true (by kernel_rfl)) (by unfold Func.isWrapper; first | (rw [if_pos (by decide +kernel)]; kernel_rfl) | (rw [if_neg (by decide +kernel)]; exact ⟨rfl, rfl⟩))
    (fun os started H enc _ => lifted os started H enc)

theorem proved : Rows.FnBbrRoundSaid := over
end Go.Proofs.Yteomllgkcolmhaa.fnBbrRound
