/- For every code the law FnBbr answers true and leaves its argument as it was; no condition. -/
import Derived.Test.YteomllgkcolmhaaRows
import Derived.Test.YteomllgkcolmhaaDraw
import Derived.Test.YteomllgkcolmhaaBbF
import Derived.WalkKit
import Derived.ProofKit
import Derived.OpenShut
import Derived.ShutString
import Derived.ChangeOld
import Derived.Below
import Derived.Lib.SmallJoins
namespace Go.Proofs.Yteomllgkcolmhaa.fnBbr
open Go.ChangeShapes Go.WideShapes Go.ChangeAt Go.RowKit Go.Joins
open Go.ChangeMaps (open_string shut_string)
set_option linter.unusedVariables false

theorem own : ownKnob Try.prog.godebug = none := by kernel_rfl
theorem laidOut : laidOutB Try.prog = true := by kernel_rfl


def IsRow (k : IntKind) (w : World) (a : Option Addr) (len cap : Nat) (zs : List Int) : Prop :=
  (a = none ∧ len = 0 ∧ cap = 0 ∧ zs = []) ∨
  ∃ x, a = some x ∧ len ≤ cap ∧ cap ≤ maxLen ∧ zs.length = cap ∧ (∀ i, i < zs.length → w.cell? (x.add i) = some (.int k (zs.getD i 0))) ∧ ∀ n ∈ zs, (Lit.int k n).wf = true

def St (W : World) (B : Nat) (p : Int) (a : Option Addr) (c : Nat) (l : List Rg) (R f s t : Int) : Prop := Bx W B 26 (bbC p a l.length c R f s t) ∧ RgAt W a l
theorem St.keep {W W' : World} {B : Nat} {p : Int} {a : Option Addr} {c : Nat} {l : List Rg} {R f s t : Int} (h : St W B p a c l R f s t) (hg : W.grownBy W' none) : St W' B p a c l R f s t := ⟨h.1.keep hg, h.2.kept hg⟩
theorem st_new {W : World} {p : Int} {a : Option Addr} {c : Nat} {l : List Rg} {R f s t : Int} (h : RgAt W a l) : St (W.alloc (.cells (bbC p a l.length c R f s t) 26)) W.heap.size p a c l R f s t := ⟨Bx.new _ _ _, h.kept (World.grownBy_alloc W _ none)⟩
structure Lx (w : World) (B : Nat) (p : Int) (a : Option Addr) (c : Nat) (l : List Rg) (R f s t tx rx : Int) (W : World) : Prop where
  g : w.grownBy W none
  b : St W B p a c l R f s t
  x : Bx W (B + 1) 28 #[.int .i64 tx, .int .i64 rx]
theorem Lx.keep {w W W' : World} {B : Nat} {p : Int} {a : Option Addr} {c : Nat} {l : List Rg} {R f s t tx rx : Int} (h : Lx w B p a c l R f s t tx rx W) (hg : W.grownBy W' none) : Lx w B p a c l R f s t tx rx W' := ⟨grownBy_trans h.g hg, h.b.keep hg, h.x.keep hg⟩
theorem lx_new {w W : World} {p : Int} {a : Option Addr} {c : Nat} {l : List Rg} {R f s t tx rx : Int} (h : w.grownBy W none) (k : RgAt W a l) : Lx w W.heap.size p a c l R f s t tx rx ((W.alloc (.cells (bbC p a l.length c R f s t) 26)).alloc (.cells #[.int .i64 tx, .int .i64 rx] 28)) := by
  have g1 := World.grownBy_alloc W (.cells (bbC p a l.length c R f s t) 26) none
  have h1 : St (W.alloc (.cells (bbC p a l.length c R f s t) 26)) W.heap.size p a c l R f s t := st_new k
  have hx := Bx.new (W.alloc (.cells (bbC p a l.length c R f s t) 26)) 28 #[.int .i64 tx, .int .i64 rx]
  rw [World.size_alloc] at hx
  exact ⟨gA (grownBy_trans h g1) _, h1.keep (World.grownBy_alloc _ _ none), hx⟩
theorem keep5 {w W W' : World} {B BN BM BY BV : Nat} {p : Int} {a : Option Addr} {c : Nat} {l : List Rg} {R f s t tx rx : Int} {p1 : Int} {a1 : Option Addr} {c1 : Nat} {l1 : List Rg} {R1 f1 s1 t1 : Int} {p2 : Int} {a2 : Option Addr} {c2 : Nat} {l2 : List Rg} {R2 f2 s2 t2 : Int} {p3 : Int} {a3 : Option Addr} {c3 : Nat} {l3 : List Rg} {R3 f3 s3 t3 : Int} {p4 : Int} {a4 : Option Addr} {c4 : Nat} {l4 : List Rg} {R4 f4 s4 t4 : Int}
    (h : Lx w B p a c l R f s t tx rx W ∧ St W BN p1 a1 c1 l1 R1 f1 s1 t1 ∧ St W BM p2 a2 c2 l2 R2 f2 s2 t2 ∧ St W BY p3 a3 c3 l3 R3 f3 s3 t3 ∧ St W BV p4 a4 c4 l4 R4 f4 s4 t4) (hg : W.grownBy W' none) : Lx w B p a c l R f s t tx rx W' ∧ St W' BN p1 a1 c1 l1 R1 f1 s1 t1 ∧ St W' BM p2 a2 c2 l2 R2 f2 s2 t2 ∧ St W' BY p3 a3 c3 l3 R3 f3 s3 t3 ∧ St W' BV p4 a4 c4 l4 R4 f4 s4 t4 :=
  ⟨h.1.keep hg, h.2.1.keep hg, h.2.2.1.keep hg, h.2.2.2.1.keep hg, h.2.2.2.2.keep hg⟩

set_option maxRecDepth 100000 in
set_option maxHeartbeats 1500000 in
theorem walk (a0 : Option Addr) (len0 cap0 : Nat) (z0 : List Int) (w : World) (w0 : IsRow .u8 w a0 len0 cap0 z0) :
    Calls Try.prog 3 #[.slice a0 len0 cap0] w fun e w' => e = .returned (.bool true) ∧ Below w.heap.size w w' := by
  have H := Lib.hid (code_of w0)
  clear w0
  go_enter Try.func3, Try.ntmps3
  go_wp2_with fail
  refine (big_any _ _ _ _).mono ?_
  rintro e w' ⟨rfl, rfl⟩
  by_cases hb : 1048576 < len0
  · rw [decide_eq_true hb]
    go_wp2_with fail
    go_ret
    exact ⟨rfl, below_new (World.grownBy.refl _ _)⟩
  · rw [decide_eq_false hb]
    clear hb
    go_wp2_with fail
    refine (draw_bs _ _ _ _ H.out).mono ?_
    rintro e w0 ⟨al, cl, p, l, R, f, s, t, tx, rx, q, fl, rfl, hg, hra, hl⟩
    have H1 := Lib.hid (lx_new (p := p) (R := R) (f := f) (s := s) (t := t) (tx := tx) (rx := rx) (c := cl) hg hra)
    clear hg hra
    obtain ⟨D, hD⟩ : ∃ D, stepOk (⟨p, l, R, f, s, t⟩ : Bb) (tx, rx) q fl = D := ⟨_, rfl⟩
    have hLL := step_more (⟨p, l, R, f, s, t⟩ : Bb) (tx, rx) q fl
    obtain ⟨U, hU⟩ : ∃ U, stepB (⟨p, l, R, f, s, t⟩ : Bb) (tx, rx) q fl = U := ⟨_, rfl⟩
    rw [hU] at hLL
    obtain ⟨P, M, R1, F1, S1, T1⟩ := U
    replace hLL : M.length ≤ 20 := by dsimp only at hLL; omega
    have HSI := Lib.hid (show ∀ (W : World) (b : Option Addr) (cb : Nat), RgAt W b l → Calls Try.prog 7 #[bbV p b l.length cb R f s t, .agg #[.int .i64 tx, .int .i64 rx], .int .i64 q, .int .i64 fl] W (fun e w' => ∃ a c, e = .returned (.tuple #[bbV P a M.length c R1 F1 S1 T1, .bool D]) ∧ W.grownBy w' none ∧ OwnRg w' W.heap.size a c M) from fun W b cb h => by have hq := step_impl p b cb l R f s t tx rx q fl W h (by omega); rw [hU, hD] at hq; exact hq)
    have HSS := Lib.hid (show ∀ (W : World) (b : Option Addr) (cb : Nat), RgAt W b l → Calls Try.prog 8 #[bbV p b l.length cb R f s t, .agg #[.int .i64 tx, .int .i64 rx], .int .i64 q, .int .i64 fl] W (fun e w' => ∃ a c, e = .returned (.tuple #[bbV P a M.length c R1 F1 S1 T1, .bool D]) ∧ W.grownBy w' none ∧ OwnRg w' W.heap.size a c M) from fun W b cb h => by have hq := step_spec p b cb l R f s t tx rx q fl W h (by omega); rw [hU, hD] at hq; exact hq)
    have HU := Lib.hid (And.intro hD hU)
    clear hD hU
    go_wp2_with fail
    generalize (w0.alloc (.cells (bbC p al l.length cl R f s t) 26)).alloc (.cells #[.int .i64 tx, .int .i64 rx] 28) = w1 at *
    generalize w0.heap.size = B0 at *
    refine (HSI.out _ _ _ H1.out.b.2).mono ?_
    rintro e w2 ⟨a1, c1, rfl, hg, ho⟩
    have gX := World.grownBy_alloc w2 (.cells (bbC P a1 M.length c1 R1 F1 S1 T1) 26) none
    have H3 := Lib.hid (And.intro (H1.out.keep (grownBy_trans hg gX)) (st_new (p := P) (c := c1) (R := R1) (f := F1) (s := S1) (t := T1) (rg_own ho)))
    clear hg ho gX
    have b0 := (H3.out.1.b.1).c 0 rfl
    have b1 := (H3.out.1.b.1).c 1 rfl
    have b2 := (H3.out.1.b.1).c 2 rfl
    have b3 := (H3.out.1.b.1).c 3 rfl
    have b4 := (H3.out.1.b.1).c 4 rfl
    have b5 := (H3.out.1.b.1).c 5 rfl
    have x0 := H3.out.1.x.c 0 rfl
    have x1 := H3.out.1.x.c 1 rfl
    go_wp2_with fail
    generalize w2.alloc (.cells (bbC P a1 M.length c1 R1 F1 S1 T1) 26) = w3 at *
    generalize w2.heap.size = BN at *
    refine (HSS.out _ _ _ H3.out.1.b.2).mono ?_
    rintro e w4 ⟨a2, c2, rfl, hg, ho⟩
    clear b0 b1 b2 b3 b4 b5 x0 x1
    have gX := World.grownBy_alloc w4 (.cells (bbC P a2 M.length c2 R1 F1 S1 T1) 26) none
    have H5 := Lib.hid (And.intro (H3.out.1.keep (grownBy_trans hg gX)) (And.intro (H3.out.2.keep (grownBy_trans hg gX)) (st_new (p := P) (c := c2) (R := R1) (f := F1) (s := S1) (t := T1) (rg_own ho))))
    clear hg ho gX
    go_wp2_with fail
    generalize w4.alloc (.cells (bbC P a2 M.length c2 R1 F1 S1 T1) 26) = w5 at *
    generalize w4.heap.size = BM at *
    refine (draw_bo _ _ _ _ (H.out.kept H5.out.1.g)).mono ?_
    rintro e w6 ⟨ay, cy, py, ly, Ry, fy, sy, ty, rfl, hg, ho, hly⟩
    have gX := World.grownBy_alloc w6 (.cells (bbC py ay ly.length cy Ry fy sy ty) 26) none
    have H7 := Lib.hid (And.intro (H5.out.1.keep (grownBy_trans hg gX)) (And.intro (H5.out.2.1.keep (grownBy_trans hg gX)) (And.intro (H5.out.2.2.keep (grownBy_trans hg gX)) (st_new (p := py) (c := cy) (R := Ry) (f := fy) (s := sy) (t := ty) (rg_own ho)))))
    clear hg ho gX
    go_wp2_with fail
    generalize w6.alloc (.cells (bbC py ay ly.length cy Ry fy sy ty) 26) = w7 at *
    generalize w6.heap.size = BY at *
    refine (draw_bw _ _ _ _ (H.out.kept H7.out.1.g)).mono ?_
    rintro e w8 ⟨av, cv, pv, lv, Rv, fv, sv, tv, rfl, hg, ho, hlv⟩
    have gX := World.grownBy_alloc w8 (.cells (bbC pv av lv.length cv Rv fv sv tv) 26) none
    have H9 := Lib.hid (And.intro (H7.out.1.keep (grownBy_trans hg gX)) (And.intro (H7.out.2.1.keep (grownBy_trans hg gX)) (And.intro (H7.out.2.2.1.keep (grownBy_trans hg gX)) (And.intro (H7.out.2.2.2.keep (grownBy_trans hg gX)) (st_new (p := pv) (c := cv) (R := Rv) (f := fv) (s := sv) (t := tv) (rg_own ho))))))
    clear hg ho gX
    obtain ⟨OKY, hOKY⟩ : ∃ o, bbOk py ly Ry fy sy ty = o := ⟨_, rfl⟩
    obtain ⟨WV, hWV⟩ : ∃ o, winF pv lv Rv fv sv tv = o := ⟨_, rfl⟩
    have HY := Lib.hid hOKY
    have HV := Lib.hid hWV
    clear hOKY hWV
    go_upto_region 8 with fail
    generalize w8.alloc (.cells (bbC pv av lv.length cv Rv fv sv tv) 26) = w9 at *
    generalize w8.heap.size = BV at *
    have b0 := (H9.out.2.1.1).c 0 rfl
    have b1 := (H9.out.2.1.1).c 1 rfl
    have b2 := (H9.out.2.1.1).c 2 rfl
    have b3 := (H9.out.2.1.1).c 3 rfl
    have b4 := (H9.out.2.1.1).c 4 rfl
    have b5 := (H9.out.2.1.1).c 5 rfl
    have d0 := (H9.out.2.2.1.1).c 0 rfl
    have d1 := (H9.out.2.2.1.1).c 1 rfl
    have d2 := (H9.out.2.2.1.1).c 2 rfl
    have d3 := (H9.out.2.2.1.1).c 3 rfl
    have d4 := (H9.out.2.2.1.1).c 4 rfl
    have d5 := (H9.out.2.2.1.1).c 5 rfl
    have y0 := (H9.out.2.2.2.1.1).c 0 rfl
    have y1 := (H9.out.2.2.2.1.1).c 1 rfl
    have y2 := (H9.out.2.2.2.1.1).c 2 rfl
    have y3 := (H9.out.2.2.2.1.1).c 3 rfl
    have y4 := (H9.out.2.2.2.1.1).c 4 rfl
    have y5 := (H9.out.2.2.2.1.1).c 5 rfl
    have v0 := (H9.out.2.2.2.2.1).c 0 rfl
    have v1 := (H9.out.2.2.2.2.1).c 1 rfl
    have v2 := (H9.out.2.2.2.2.1).c 2 rfl
    have v3 := (H9.out.2.2.2.2.1).c 3 rfl
    have v4 := (H9.out.2.2.2.2.1).c 4 rfl
    have v5 := (H9.out.2.2.2.2.1).c 5 rfl
    cases D
    · skip
      refine wp_region_held_drew (S := fun w' => w'.cell? ⟨BN, 0, none⟩ = some (.int .i64 P) ∧ w'.cell? ⟨BN, 1, none⟩ = some (.slice a1 M.length c1) ∧ w'.cell? ⟨BN, 2, none⟩ = some (.int .i64 R1) ∧ w'.cell? ⟨BN, 3, none⟩ = some (.int .i64 F1) ∧ w'.cell? ⟨BN, 4, none⟩ = some (.int .i64 S1) ∧ w'.cell? ⟨BN, 5, none⟩ = some (.int .i64 T1) ∧ w'.cell? ⟨BM, 0, none⟩ = some (.int .i64 P) ∧ w'.cell? ⟨BM, 1, none⟩ = some (.slice a2 M.length c2) ∧ w'.cell? ⟨BM, 2, none⟩ = some (.int .i64 R1) ∧ w'.cell? ⟨BM, 3, none⟩ = some (.int .i64 F1) ∧ w'.cell? ⟨BM, 4, none⟩ = some (.int .i64 S1) ∧ w'.cell? ⟨BM, 5, none⟩ = some (.int .i64 T1) ∧ w'.cell? ⟨BY, 0, none⟩ = some (.int .i64 py) ∧ w'.cell? ⟨BY, 1, none⟩ = some (.slice ay ly.length cy) ∧ w'.cell? ⟨BY, 2, none⟩ = some (.int .i64 Ry) ∧ w'.cell? ⟨BY, 3, none⟩ = some (.int .i64 fy) ∧ w'.cell? ⟨BY, 4, none⟩ = some (.int .i64 sy) ∧ w'.cell? ⟨BY, 5, none⟩ = some (.int .i64 ty) ∧ w'.cell? ⟨BV, 0, none⟩ = some (.int .i64 pv) ∧ w'.cell? ⟨BV, 1, none⟩ = some (.slice av lv.length cv) ∧ w'.cell? ⟨BV, 2, none⟩ = some (.int .i64 Rv) ∧ w'.cell? ⟨BV, 3, none⟩ = some (.int .i64 fv) ∧ w'.cell? ⟨BV, 4, none⟩ = some (.int .i64 sv) ∧ w'.cell? ⟨BV, 5, none⟩ = some (.int .i64 tv) ∧ w9.grownBy w' none) (by kernel_rfl) (⟨by first | assumption | (go_simp; done) | (simp [*]; done), by first | assumption | (go_simp; done) | (simp [*]; done), by first | assumption | (go_simp; done) | (simp [*]; done), by first | assumption | (go_simp; done) | (simp [*]; done), by first | assumption | (go_simp; done) | (simp [*]; done), by first | assumption | (go_simp; done) | (simp [*]; done), by first | assumption | (go_simp; done) | (simp [*]; done), by first | assumption | (go_simp; done) | (simp [*]; done), by first | assumption | (go_simp; done) | (simp [*]; done), by first | assumption | (go_simp; done) | (simp [*]; done), by first | assumption | (go_simp; done) | (simp [*]; done), by first | assumption | (go_simp; done) | (simp [*]; done), by first | assumption | (go_simp; done) | (simp [*]; done), by first | assumption | (go_simp; done) | (simp [*]; done), by first | assumption | (go_simp; done) | (simp [*]; done), by first | assumption | (go_simp; done) | (simp [*]; done), by first | assumption | (go_simp; done) | (simp [*]; done), by first | assumption | (go_simp; done) | (simp [*]; done), by first | assumption | (go_simp; done) | (simp [*]; done), by first | assumption | (go_simp; done) | (simp [*]; done), by first | assumption | (go_simp; done) | (simp [*]; done), by first | assumption | (go_simp; done) | (simp [*]; done), by first | assumption | (go_simp; done) | (simp [*]; done), by first | assumption | (go_simp; done) | (simp [*]; done), grownBy_trans (World.grownBy.refl _ _) grownBy_drew⟩) (fun hS => ?_)
      refine wpAnyH_take (i := 0) (v := ?_) rfl (by kernel_rfl) (by kernel_rfl) (by kernel_rfl) (fun _ _ _ h => h) (Or.inl ⟨by kernel_rfl, ?_⟩) hS ?_
      rotate_left
      · intro w' hSw
        obtain ⟨g0, g1, g2, g3, g4, g5, g6, g7, g8, g9, g10, g11, g12, g13, g14, g15, g16, g17, g18, g19, g20, g21, g22, g23, _⟩ := hSw
        first | (go_simp; done) | (go_simp; with_reducible rfl)
      simp only [List.getElem_toArray, List.getElem_cons_zero, Act.put, List.setIfInBounds_toArray, List.set_cons_zero, List.set_cons_succ]
      refine wpAnyH_take (i := 1) (v := ?_) rfl (by kernel_rfl) (by kernel_rfl) (by kernel_rfl) (fun _ _ _ h => h) (Or.inl ⟨by kernel_rfl, ?_⟩) hS ?_
      rotate_left
      · intro w' hSw
        obtain ⟨g0, g1, g2, g3, g4, g5, g6, g7, g8, g9, g10, g11, g12, g13, g14, g15, g16, g17, g18, g19, g20, g21, g22, g23, _⟩ := hSw
        first | (go_simp; done) | (go_simp; with_reducible rfl)
      simp only [List.getElem_toArray, List.getElem_cons_zero, List.getElem_cons_succ, Act.put, List.setIfInBounds_toArray, List.set_cons_zero, List.set_cons_succ]
      refine wpAnyH_take (i := 2) (v := ?_) rfl (by kernel_rfl) (by kernel_rfl) (by kernel_rfl) (fun _ _ _ h => h) (Or.inl ⟨by kernel_rfl, ?_⟩) hS ?_
      rotate_left
      · intro w' hSw
        obtain ⟨g0, g1, g2, g3, g4, g5, g6, g7, g8, g9, g10, g11, g12, g13, g14, g15, g16, g17, g18, g19, g20, g21, g22, g23, _⟩ := hSw
        first | (go_simp; done) | (go_simp; with_reducible rfl)
      simp only [List.getElem_toArray, List.getElem_cons_zero, List.getElem_cons_succ, Act.put, List.setIfInBounds_toArray, List.set_cons_zero, List.set_cons_succ]
      refine wpAnyH_take (i := 3) (v := ?_) rfl (by kernel_rfl) (by kernel_rfl) (by kernel_rfl) (fun _ _ _ h => h) (Or.inl ⟨by kernel_rfl, ?_⟩) hS ?_
      rotate_left
      · intro w' hSw
        obtain ⟨g0, g1, g2, g3, g4, g5, g6, g7, g8, g9, g10, g11, g12, g13, g14, g15, g16, g17, g18, g19, g20, g21, g22, g23, _⟩ := hSw
        first | (go_simp; done) | (go_simp; with_reducible rfl)
      simp only [List.getElem_toArray, List.getElem_cons_zero, List.getElem_cons_succ, Act.put, List.setIfInBounds_toArray, List.set_cons_zero, List.set_cons_succ]
      refine wpAnyH_take (i := 4) (v := ?_) rfl (by kernel_rfl) (by kernel_rfl) (by kernel_rfl) (fun _ _ _ h => h) (Or.inl ⟨by kernel_rfl, ?_⟩) hS ?_
      rotate_left
      · intro w' hSw
        obtain ⟨g0, g1, g2, g3, g4, g5, g6, g7, g8, g9, g10, g11, g12, g13, g14, g15, g16, g17, g18, g19, g20, g21, g22, g23, _⟩ := hSw
        first | (go_simp; done) | (go_simp; with_reducible rfl)
      simp only [List.getElem_toArray, List.getElem_cons_zero, List.getElem_cons_succ, Act.put, List.setIfInBounds_toArray, List.set_cons_zero, List.set_cons_succ]
      refine wpAnyH_take (i := 5) (v := ?_) rfl (by kernel_rfl) (by kernel_rfl) (by kernel_rfl) (fun _ _ _ h => h) (Or.inl ⟨by kernel_rfl, ?_⟩) hS ?_
      rotate_left
      · intro w' hSw
        obtain ⟨g0, g1, g2, g3, g4, g5, g6, g7, g8, g9, g10, g11, g12, g13, g14, g15, g16, g17, g18, g19, g20, g21, g22, g23, _⟩ := hSw
        first | (go_simp; done) | (go_simp; with_reducible rfl)
      simp only [List.getElem_toArray, List.getElem_cons_zero, List.getElem_cons_succ, Act.put, List.setIfInBounds_toArray, List.set_cons_zero, List.set_cons_succ]
      refine wpAnyH_ready (rs := [6]) (by kernel_rfl) (List.cons_ne_nil _ _) ?_
      refine AllReadyH.cons rfl (fun K hK => ?_) AllReadyH.nil
      go_simp
      go_at_call 11
      refine (same_bbr _ _ _ _ _ _ _ _ _ _ _ ((H9.out.2.1.keep (hS.2.2.2.2.2.2.2.2.2.2.2.2.2.2.2.2.2.2.2.2.2.2.2.2)).2) ((H9.out.2.2.1.keep (hS.2.2.2.2.2.2.2.2.2.2.2.2.2.2.2.2.2.2.2.2.2.2.2.2)).2) (by omega)).mono ?_
      rintro e w10 ⟨rfl, hg⟩
      refine hK.out _ _ (⟨hg.cell (hS.1) (by simp), hg.cell (hS.2.1) (by simp), hg.cell (hS.2.2.1) (by simp), hg.cell (hS.2.2.2.1) (by simp), hg.cell (hS.2.2.2.2.1) (by simp), hg.cell (hS.2.2.2.2.2.1) (by simp), hg.cell (hS.2.2.2.2.2.2.1) (by simp), hg.cell (hS.2.2.2.2.2.2.2.1) (by simp), hg.cell (hS.2.2.2.2.2.2.2.2.1) (by simp), hg.cell (hS.2.2.2.2.2.2.2.2.2.1) (by simp), hg.cell (hS.2.2.2.2.2.2.2.2.2.2.1) (by simp), hg.cell (hS.2.2.2.2.2.2.2.2.2.2.2.1) (by simp), hg.cell (hS.2.2.2.2.2.2.2.2.2.2.2.2.1) (by simp), hg.cell (hS.2.2.2.2.2.2.2.2.2.2.2.2.2.1) (by simp), hg.cell (hS.2.2.2.2.2.2.2.2.2.2.2.2.2.2.1) (by simp), hg.cell (hS.2.2.2.2.2.2.2.2.2.2.2.2.2.2.2.1) (by simp), hg.cell (hS.2.2.2.2.2.2.2.2.2.2.2.2.2.2.2.2.1) (by simp), hg.cell (hS.2.2.2.2.2.2.2.2.2.2.2.2.2.2.2.2.2.1) (by simp), hg.cell (hS.2.2.2.2.2.2.2.2.2.2.2.2.2.2.2.2.2.2.1) (by simp), hg.cell (hS.2.2.2.2.2.2.2.2.2.2.2.2.2.2.2.2.2.2.2.1) (by simp), hg.cell (hS.2.2.2.2.2.2.2.2.2.2.2.2.2.2.2.2.2.2.2.2.1) (by simp), hg.cell (hS.2.2.2.2.2.2.2.2.2.2.2.2.2.2.2.2.2.2.2.2.2.1) (by simp), hg.cell (hS.2.2.2.2.2.2.2.2.2.2.2.2.2.2.2.2.2.2.2.2.2.2.1) (by simp), hg.cell (hS.2.2.2.2.2.2.2.2.2.2.2.2.2.2.2.2.2.2.2.2.2.2.2.1) (by simp), grownBy_trans (hS.2.2.2.2.2.2.2.2.2.2.2.2.2.2.2.2.2.2.2.2.2.2.2.2) hg⟩) (fun hS => ?_)
      clear hK
      try simp only [List.getElem_toArray, List.getElem_cons_zero, List.getElem_cons_succ, Act.put, List.setIfInBounds_toArray, List.set_cons_zero, List.set_cons_succ]
      refine wpAnyH_take (i := 7) (v := ?_) rfl (by kernel_rfl) (by kernel_rfl) (by kernel_rfl) (fun _ _ _ h => h) (Or.inl ⟨by kernel_rfl, ?_⟩) hS ?_
      rotate_left
      · intro w' hSw
        obtain ⟨g0, g1, g2, g3, g4, g5, g6, g7, g8, g9, g10, g11, g12, g13, g14, g15, g16, g17, g18, g19, g20, g21, g22, g23, _⟩ := hSw
        first | (go_simp; done) | (go_simp; with_reducible rfl)
      simp only [List.getElem_toArray, List.getElem_cons_zero, List.getElem_cons_succ, Act.put, List.setIfInBounds_toArray, List.set_cons_zero, List.set_cons_succ]
      refine wpAnyH_take (i := 8) (v := ?_) rfl (by kernel_rfl) (by kernel_rfl) (by kernel_rfl) (fun _ _ _ h => h) (Or.inl ⟨by kernel_rfl, ?_⟩) hS ?_
      rotate_left
      · intro w' hSw
        obtain ⟨g0, g1, g2, g3, g4, g5, g6, g7, g8, g9, g10, g11, g12, g13, g14, g15, g16, g17, g18, g19, g20, g21, g22, g23, _⟩ := hSw
        first | (go_simp; done) | (go_simp; with_reducible rfl)
      simp only [List.getElem_toArray, List.getElem_cons_zero, List.getElem_cons_succ, Act.put, List.setIfInBounds_toArray, List.set_cons_zero, List.set_cons_succ]
      refine wpAnyH_take (i := 9) (v := ?_) rfl (by kernel_rfl) (by kernel_rfl) (by kernel_rfl) (fun _ _ _ h => h) (Or.inl ⟨by kernel_rfl, ?_⟩) hS ?_
      rotate_left
      · intro w' hSw
        obtain ⟨g0, g1, g2, g3, g4, g5, g6, g7, g8, g9, g10, g11, g12, g13, g14, g15, g16, g17, g18, g19, g20, g21, g22, g23, _⟩ := hSw
        first | (go_simp; done) | (go_simp; with_reducible rfl)
      simp only [List.getElem_toArray, List.getElem_cons_zero, List.getElem_cons_succ, Act.put, List.setIfInBounds_toArray, List.set_cons_zero, List.set_cons_succ]
      refine wpAnyH_take (i := 10) (v := ?_) rfl (by kernel_rfl) (by kernel_rfl) (by kernel_rfl) (fun _ _ _ h => h) (Or.inl ⟨by kernel_rfl, ?_⟩) hS ?_
      rotate_left
      · intro w' hSw
        obtain ⟨g0, g1, g2, g3, g4, g5, g6, g7, g8, g9, g10, g11, g12, g13, g14, g15, g16, g17, g18, g19, g20, g21, g22, g23, _⟩ := hSw
        first | (go_simp; done) | (go_simp; with_reducible rfl)
      simp only [List.getElem_toArray, List.getElem_cons_zero, List.getElem_cons_succ, Act.put, List.setIfInBounds_toArray, List.set_cons_zero, List.set_cons_succ]
      refine wpAnyH_take (i := 12) (v := ?_) rfl (by kernel_rfl) (by kernel_rfl) (by kernel_rfl) (fun _ _ _ h => h) (Or.inl ⟨by kernel_rfl, ?_⟩) hS ?_
      rotate_left
      · intro w' hSw
        obtain ⟨g0, g1, g2, g3, g4, g5, g6, g7, g8, g9, g10, g11, g12, g13, g14, g15, g16, g17, g18, g19, g20, g21, g22, g23, _⟩ := hSw
        first | (go_simp; done) | (go_simp; with_reducible rfl)
      simp only [List.getElem_toArray, List.getElem_cons_zero, List.getElem_cons_succ, Act.put, List.setIfInBounds_toArray, List.set_cons_zero, List.set_cons_succ]
      refine wpAnyH_ready (rs := [11]) (by kernel_rfl) (List.cons_ne_nil _ _) ?_
      refine AllReadyH.cons rfl (fun K hK => ?_) AllReadyH.nil
      go_simp
      go_at_call 12
      refine (bb_ok_impl _ _ _ _ _ _ _ _ _ ((H9.out.2.2.2.1.keep (hS.2.2.2.2.2.2.2.2.2.2.2.2.2.2.2.2.2.2.2.2.2.2.2.2)).2) (by omega)).mono ?_
      rintro e w10 ⟨rfl, hg⟩
      rw [HY.out]
      refine hK.out _ _ (⟨hg.cell (hS.1) (by simp), hg.cell (hS.2.1) (by simp), hg.cell (hS.2.2.1) (by simp), hg.cell (hS.2.2.2.1) (by simp), hg.cell (hS.2.2.2.2.1) (by simp), hg.cell (hS.2.2.2.2.2.1) (by simp), hg.cell (hS.2.2.2.2.2.2.1) (by simp), hg.cell (hS.2.2.2.2.2.2.2.1) (by simp), hg.cell (hS.2.2.2.2.2.2.2.2.1) (by simp), hg.cell (hS.2.2.2.2.2.2.2.2.2.1) (by simp), hg.cell (hS.2.2.2.2.2.2.2.2.2.2.1) (by simp), hg.cell (hS.2.2.2.2.2.2.2.2.2.2.2.1) (by simp), hg.cell (hS.2.2.2.2.2.2.2.2.2.2.2.2.1) (by simp), hg.cell (hS.2.2.2.2.2.2.2.2.2.2.2.2.2.1) (by simp), hg.cell (hS.2.2.2.2.2.2.2.2.2.2.2.2.2.2.1) (by simp), hg.cell (hS.2.2.2.2.2.2.2.2.2.2.2.2.2.2.2.1) (by simp), hg.cell (hS.2.2.2.2.2.2.2.2.2.2.2.2.2.2.2.2.1) (by simp), hg.cell (hS.2.2.2.2.2.2.2.2.2.2.2.2.2.2.2.2.2.1) (by simp), hg.cell (hS.2.2.2.2.2.2.2.2.2.2.2.2.2.2.2.2.2.2.1) (by simp), hg.cell (hS.2.2.2.2.2.2.2.2.2.2.2.2.2.2.2.2.2.2.2.1) (by simp), hg.cell (hS.2.2.2.2.2.2.2.2.2.2.2.2.2.2.2.2.2.2.2.2.1) (by simp), hg.cell (hS.2.2.2.2.2.2.2.2.2.2.2.2.2.2.2.2.2.2.2.2.2.1) (by simp), hg.cell (hS.2.2.2.2.2.2.2.2.2.2.2.2.2.2.2.2.2.2.2.2.2.2.1) (by simp), hg.cell (hS.2.2.2.2.2.2.2.2.2.2.2.2.2.2.2.2.2.2.2.2.2.2.2.1) (by simp), grownBy_trans (hS.2.2.2.2.2.2.2.2.2.2.2.2.2.2.2.2.2.2.2.2.2.2.2.2) hg⟩) (fun hS => ?_)
      clear hK
      try simp only [List.getElem_toArray, List.getElem_cons_zero, List.getElem_cons_succ, Act.put, List.setIfInBounds_toArray, List.set_cons_zero, List.set_cons_succ]
      refine wpAnyH_ready (rs := [13]) (by kernel_rfl) (List.cons_ne_nil _ _) ?_
      refine AllReadyH.cons rfl (fun K hK => ?_) AllReadyH.nil
      go_simp
      go_at_call 13
      refine (bb_ok_spec _ _ _ _ _ _ _ _ _ ((H9.out.2.2.2.1.keep (hS.2.2.2.2.2.2.2.2.2.2.2.2.2.2.2.2.2.2.2.2.2.2.2.2)).2) (by omega)).mono ?_
      rintro e w10 ⟨rfl, hg⟩
      rw [HY.out]
      refine hK.out _ _ (⟨hg.cell (hS.1) (by simp), hg.cell (hS.2.1) (by simp), hg.cell (hS.2.2.1) (by simp), hg.cell (hS.2.2.2.1) (by simp), hg.cell (hS.2.2.2.2.1) (by simp), hg.cell (hS.2.2.2.2.2.1) (by simp), hg.cell (hS.2.2.2.2.2.2.1) (by simp), hg.cell (hS.2.2.2.2.2.2.2.1) (by simp), hg.cell (hS.2.2.2.2.2.2.2.2.1) (by simp), hg.cell (hS.2.2.2.2.2.2.2.2.2.1) (by simp), hg.cell (hS.2.2.2.2.2.2.2.2.2.2.1) (by simp), hg.cell (hS.2.2.2.2.2.2.2.2.2.2.2.1) (by simp), hg.cell (hS.2.2.2.2.2.2.2.2.2.2.2.2.1) (by simp), hg.cell (hS.2.2.2.2.2.2.2.2.2.2.2.2.2.1) (by simp), hg.cell (hS.2.2.2.2.2.2.2.2.2.2.2.2.2.2.1) (by simp), hg.cell (hS.2.2.2.2.2.2.2.2.2.2.2.2.2.2.2.1) (by simp), hg.cell (hS.2.2.2.2.2.2.2.2.2.2.2.2.2.2.2.2.1) (by simp), hg.cell (hS.2.2.2.2.2.2.2.2.2.2.2.2.2.2.2.2.2.1) (by simp), hg.cell (hS.2.2.2.2.2.2.2.2.2.2.2.2.2.2.2.2.2.2.1) (by simp), hg.cell (hS.2.2.2.2.2.2.2.2.2.2.2.2.2.2.2.2.2.2.2.1) (by simp), hg.cell (hS.2.2.2.2.2.2.2.2.2.2.2.2.2.2.2.2.2.2.2.2.1) (by simp), hg.cell (hS.2.2.2.2.2.2.2.2.2.2.2.2.2.2.2.2.2.2.2.2.2.1) (by simp), hg.cell (hS.2.2.2.2.2.2.2.2.2.2.2.2.2.2.2.2.2.2.2.2.2.2.1) (by simp), hg.cell (hS.2.2.2.2.2.2.2.2.2.2.2.2.2.2.2.2.2.2.2.2.2.2.2.1) (by simp), grownBy_trans (hS.2.2.2.2.2.2.2.2.2.2.2.2.2.2.2.2.2.2.2.2.2.2.2.2) hg⟩) (fun hS => ?_)
      clear hK
      try simp only [List.getElem_toArray, List.getElem_cons_zero, List.getElem_cons_succ, Act.put, List.setIfInBounds_toArray, List.set_cons_zero, List.set_cons_succ]
      refine wpAnyH_take (i := 14) (v := ?_) rfl (by kernel_rfl) (by kernel_rfl) (by kernel_rfl) (fun _ _ _ h => h) (Or.inl ⟨by kernel_rfl, ?_⟩) hS ?_
      rotate_left
      · intro w' hSw
        obtain ⟨g0, g1, g2, g3, g4, g5, g6, g7, g8, g9, g10, g11, g12, g13, g14, g15, g16, g17, g18, g19, g20, g21, g22, g23, _⟩ := hSw
        first | (go_simp; done) | (go_simp; with_reducible rfl)
      simp only [List.getElem_toArray, List.getElem_cons_zero, List.getElem_cons_succ, Act.put, List.setIfInBounds_toArray, List.set_cons_zero, List.set_cons_succ]
      refine wpAnyH_take (i := 15) (v := ?_) rfl (by kernel_rfl) (by kernel_rfl) (by kernel_rfl) (fun _ _ _ h => h) (Or.inl ⟨by kernel_rfl, ?_⟩) hS ?_
      rotate_left
      · intro w' hSw
        obtain ⟨g0, g1, g2, g3, g4, g5, g6, g7, g8, g9, g10, g11, g12, g13, g14, g15, g16, g17, g18, g19, g20, g21, g22, g23, _⟩ := hSw
        first | (go_simp; done) | (go_simp; with_reducible rfl)
      simp only [List.getElem_toArray, List.getElem_cons_zero, List.getElem_cons_succ, Act.put, List.setIfInBounds_toArray, List.set_cons_zero, List.set_cons_succ]
      refine wpAnyH_take (i := 16) (v := ?_) rfl (by kernel_rfl) (by kernel_rfl) (by kernel_rfl) (fun _ _ _ h => h) (Or.inl ⟨by kernel_rfl, ?_⟩) hS ?_
      rotate_left
      · intro w' hSw
        obtain ⟨g0, g1, g2, g3, g4, g5, g6, g7, g8, g9, g10, g11, g12, g13, g14, g15, g16, g17, g18, g19, g20, g21, g22, g23, _⟩ := hSw
        first | (go_simp; done) | (go_simp; with_reducible rfl)
      simp only [List.getElem_toArray, List.getElem_cons_zero, List.getElem_cons_succ, Act.put, List.setIfInBounds_toArray, List.set_cons_zero, List.set_cons_succ]
      refine wpAnyH_take (i := 17) (v := ?_) rfl (by kernel_rfl) (by kernel_rfl) (by kernel_rfl) (fun _ _ _ h => h) (Or.inl ⟨by kernel_rfl, ?_⟩) hS ?_
      rotate_left
      · intro w' hSw
        obtain ⟨g0, g1, g2, g3, g4, g5, g6, g7, g8, g9, g10, g11, g12, g13, g14, g15, g16, g17, g18, g19, g20, g21, g22, g23, _⟩ := hSw
        first | (go_simp; done) | (go_simp; with_reducible rfl)
      simp only [List.getElem_toArray, List.getElem_cons_zero, List.getElem_cons_succ, Act.put, List.setIfInBounds_toArray, List.set_cons_zero, List.set_cons_succ]
      refine wpAnyH_take (i := 19) (v := ?_) rfl (by kernel_rfl) (by kernel_rfl) (by kernel_rfl) (fun _ _ _ h => h) (Or.inl ⟨by kernel_rfl, ?_⟩) hS ?_
      rotate_left
      · intro w' hSw
        obtain ⟨g0, g1, g2, g3, g4, g5, g6, g7, g8, g9, g10, g11, g12, g13, g14, g15, g16, g17, g18, g19, g20, g21, g22, g23, _⟩ := hSw
        first | (go_simp; done) | (go_simp; with_reducible rfl)
      simp only [List.getElem_toArray, List.getElem_cons_zero, List.getElem_cons_succ, Act.put, List.setIfInBounds_toArray, List.set_cons_zero, List.set_cons_succ]
      refine wpAnyH_ready (rs := [18]) (by kernel_rfl) (List.cons_ne_nil _ _) ?_
      refine AllReadyH.cons rfl (fun K hK => ?_) AllReadyH.nil
      go_simp
      go_at_call 14
      refine (win_impl _ _ _ _ _ _ _ _ _ ((H9.out.2.2.2.2.keep (hS.2.2.2.2.2.2.2.2.2.2.2.2.2.2.2.2.2.2.2.2.2.2.2.2)).2) (by omega)).mono ?_
      rintro e w10 ⟨rfl, hg⟩
      rw [HV.out]
      refine hK.out _ _ (⟨hg.cell (hS.1) (by simp), hg.cell (hS.2.1) (by simp), hg.cell (hS.2.2.1) (by simp), hg.cell (hS.2.2.2.1) (by simp), hg.cell (hS.2.2.2.2.1) (by simp), hg.cell (hS.2.2.2.2.2.1) (by simp), hg.cell (hS.2.2.2.2.2.2.1) (by simp), hg.cell (hS.2.2.2.2.2.2.2.1) (by simp), hg.cell (hS.2.2.2.2.2.2.2.2.1) (by simp), hg.cell (hS.2.2.2.2.2.2.2.2.2.1) (by simp), hg.cell (hS.2.2.2.2.2.2.2.2.2.2.1) (by simp), hg.cell (hS.2.2.2.2.2.2.2.2.2.2.2.1) (by simp), hg.cell (hS.2.2.2.2.2.2.2.2.2.2.2.2.1) (by simp), hg.cell (hS.2.2.2.2.2.2.2.2.2.2.2.2.2.1) (by simp), hg.cell (hS.2.2.2.2.2.2.2.2.2.2.2.2.2.2.1) (by simp), hg.cell (hS.2.2.2.2.2.2.2.2.2.2.2.2.2.2.2.1) (by simp), hg.cell (hS.2.2.2.2.2.2.2.2.2.2.2.2.2.2.2.2.1) (by simp), hg.cell (hS.2.2.2.2.2.2.2.2.2.2.2.2.2.2.2.2.2.1) (by simp), hg.cell (hS.2.2.2.2.2.2.2.2.2.2.2.2.2.2.2.2.2.2.1) (by simp), hg.cell (hS.2.2.2.2.2.2.2.2.2.2.2.2.2.2.2.2.2.2.2.1) (by simp), hg.cell (hS.2.2.2.2.2.2.2.2.2.2.2.2.2.2.2.2.2.2.2.2.1) (by simp), hg.cell (hS.2.2.2.2.2.2.2.2.2.2.2.2.2.2.2.2.2.2.2.2.2.1) (by simp), hg.cell (hS.2.2.2.2.2.2.2.2.2.2.2.2.2.2.2.2.2.2.2.2.2.2.1) (by simp), hg.cell (hS.2.2.2.2.2.2.2.2.2.2.2.2.2.2.2.2.2.2.2.2.2.2.2.1) (by simp), grownBy_trans (hS.2.2.2.2.2.2.2.2.2.2.2.2.2.2.2.2.2.2.2.2.2.2.2.2) hg⟩) (fun hS => ?_)
      clear hK
      try simp only [List.getElem_toArray, List.getElem_cons_zero, List.getElem_cons_succ, Act.put, List.setIfInBounds_toArray, List.set_cons_zero, List.set_cons_succ]
      refine wpAnyH_ready (rs := [20]) (by kernel_rfl) (List.cons_ne_nil _ _) ?_
      refine AllReadyH.cons rfl (fun K hK => ?_) AllReadyH.nil
      go_simp
      go_at_call 15
      refine (win_spec _ _ _ _ _ _ _ _ _ ((H9.out.2.2.2.2.keep (hS.2.2.2.2.2.2.2.2.2.2.2.2.2.2.2.2.2.2.2.2.2.2.2.2)).2) (by omega)).mono ?_
      rintro e w10 ⟨rfl, hg⟩
      rw [HV.out]
      refine hK.out _ _ (⟨hg.cell (hS.1) (by simp), hg.cell (hS.2.1) (by simp), hg.cell (hS.2.2.1) (by simp), hg.cell (hS.2.2.2.1) (by simp), hg.cell (hS.2.2.2.2.1) (by simp), hg.cell (hS.2.2.2.2.2.1) (by simp), hg.cell (hS.2.2.2.2.2.2.1) (by simp), hg.cell (hS.2.2.2.2.2.2.2.1) (by simp), hg.cell (hS.2.2.2.2.2.2.2.2.1) (by simp), hg.cell (hS.2.2.2.2.2.2.2.2.2.1) (by simp), hg.cell (hS.2.2.2.2.2.2.2.2.2.2.1) (by simp), hg.cell (hS.2.2.2.2.2.2.2.2.2.2.2.1) (by simp), hg.cell (hS.2.2.2.2.2.2.2.2.2.2.2.2.1) (by simp), hg.cell (hS.2.2.2.2.2.2.2.2.2.2.2.2.2.1) (by simp), hg.cell (hS.2.2.2.2.2.2.2.2.2.2.2.2.2.2.1) (by simp), hg.cell (hS.2.2.2.2.2.2.2.2.2.2.2.2.2.2.2.1) (by simp), hg.cell (hS.2.2.2.2.2.2.2.2.2.2.2.2.2.2.2.2.1) (by simp), hg.cell (hS.2.2.2.2.2.2.2.2.2.2.2.2.2.2.2.2.2.1) (by simp), hg.cell (hS.2.2.2.2.2.2.2.2.2.2.2.2.2.2.2.2.2.2.1) (by simp), hg.cell (hS.2.2.2.2.2.2.2.2.2.2.2.2.2.2.2.2.2.2.2.1) (by simp), hg.cell (hS.2.2.2.2.2.2.2.2.2.2.2.2.2.2.2.2.2.2.2.2.1) (by simp), hg.cell (hS.2.2.2.2.2.2.2.2.2.2.2.2.2.2.2.2.2.2.2.2.2.1) (by simp), hg.cell (hS.2.2.2.2.2.2.2.2.2.2.2.2.2.2.2.2.2.2.2.2.2.2.1) (by simp), hg.cell (hS.2.2.2.2.2.2.2.2.2.2.2.2.2.2.2.2.2.2.2.2.2.2.2.1) (by simp), grownBy_trans (hS.2.2.2.2.2.2.2.2.2.2.2.2.2.2.2.2.2.2.2.2.2.2.2.2) hg⟩) (fun hS => ?_)
      clear hK
      try simp only [List.getElem_toArray, List.getElem_cons_zero, List.getElem_cons_succ, Act.put, List.setIfInBounds_toArray, List.set_cons_zero, List.set_cons_succ]
      refine wpAnyH_take (i := 21) (v := ?_) rfl (by kernel_rfl) (by kernel_rfl) (by kernel_rfl) (fun _ _ _ h => h) (Or.inl ⟨by kernel_rfl, ?_⟩) hS ?_
      rotate_left
      · intro w' hSw
        obtain ⟨g0, g1, g2, g3, g4, g5, g6, g7, g8, g9, g10, g11, g12, g13, g14, g15, g16, g17, g18, g19, g20, g21, g22, g23, _⟩ := hSw
        first | (go_simp; done) | (go_simp; with_reducible rfl)
      simp only [List.getElem_toArray, List.getElem_cons_zero, List.getElem_cons_succ, Act.put, List.setIfInBounds_toArray, List.set_cons_zero, List.set_cons_succ]
      refine wpAnyH_take (i := 22) (v := ?_) rfl (by kernel_rfl) (by kernel_rfl) (by kernel_rfl) (fun _ _ _ h => h) (Or.inl ⟨by kernel_rfl, ?_⟩) hS ?_
      rotate_left
      · intro w' hSw
        obtain ⟨g0, g1, g2, g3, g4, g5, g6, g7, g8, g9, g10, g11, g12, g13, g14, g15, g16, g17, g18, g19, g20, g21, g22, g23, _⟩ := hSw
        first | (go_simp; done) | (go_simp; with_reducible rfl)
      simp only [List.getElem_toArray, List.getElem_cons_zero, List.getElem_cons_succ, Act.put, List.setIfInBounds_toArray, List.set_cons_zero, List.set_cons_succ]
      refine wpAnyH_take (i := 23) (v := ?_) rfl (by kernel_rfl) (by kernel_rfl) (by kernel_rfl) (fun _ _ _ h => h) (Or.inl ⟨by kernel_rfl, ?_⟩) hS ?_
      rotate_left
      · intro w' hSw
        obtain ⟨g0, g1, g2, g3, g4, g5, g6, g7, g8, g9, g10, g11, g12, g13, g14, g15, g16, g17, g18, g19, g20, g21, g22, g23, _⟩ := hSw
        first | (go_simp; done) | (go_simp; with_reducible rfl)
      simp only [List.getElem_toArray, List.getElem_cons_zero, List.getElem_cons_succ, Act.put, List.setIfInBounds_toArray, List.set_cons_zero, List.set_cons_succ]
      refine wpAnyH_take (i := 24) (v := ?_) rfl (by kernel_rfl) (by kernel_rfl) (by kernel_rfl) (fun _ _ _ h => h) (Or.inl ⟨by kernel_rfl, ?_⟩) hS ?_
      rotate_left
      · intro w' hSw
        obtain ⟨g0, g1, g2, g3, g4, g5, g6, g7, g8, g9, g10, g11, g12, g13, g14, g15, g16, g17, g18, g19, g20, g21, g22, g23, _⟩ := hSw
        first | (go_simp; done) | (go_simp; with_reducible rfl)
      simp only [List.getElem_toArray, List.getElem_cons_zero, List.getElem_cons_succ, Act.put, List.setIfInBounds_toArray, List.set_cons_zero, List.set_cons_succ]
      refine wpAnyH_take (i := 25) (v := ?_) rfl (by kernel_rfl) (by kernel_rfl) (by kernel_rfl) (fun _ _ _ h => h) (Or.inl ⟨by kernel_rfl, ?_⟩) hS ?_
      rotate_left
      · intro w' hSw
        obtain ⟨g0, g1, g2, g3, g4, g5, g6, g7, g8, g9, g10, g11, g12, g13, g14, g15, g16, g17, g18, g19, g20, g21, g22, g23, _⟩ := hSw
        first | (go_simp; done) | (go_simp; with_reducible rfl)
      simp only [List.getElem_toArray, List.getElem_cons_zero, List.getElem_cons_succ, Act.put, List.setIfInBounds_toArray, List.set_cons_zero, List.set_cons_succ]
      refine wpAnyH_take (i := 26) (v := ?_) rfl (by kernel_rfl) (by kernel_rfl) (by kernel_rfl) (fun _ _ _ h => h) (Or.inl ⟨by kernel_rfl, ?_⟩) hS ?_
      rotate_left
      · intro w' hSw
        obtain ⟨g0, g1, g2, g3, g4, g5, g6, g7, g8, g9, g10, g11, g12, g13, g14, g15, g16, g17, g18, g19, g20, g21, g22, g23, _⟩ := hSw
        first | (go_simp; done) | (go_simp; with_reducible rfl)
      simp only [List.getElem_toArray, List.getElem_cons_zero, List.getElem_cons_succ, Act.put, List.setIfInBounds_toArray, List.set_cons_zero, List.set_cons_succ]
      refine wpAnyH_done (by kernel_rfl) ?_ _
      have hgw := hS.2.2.2.2.2.2.2.2.2.2.2.2.2.2.2.2.2.2.2.2.2.2.2.2
      have H9 := Lib.hid (keep5 H9.out hgw)
      clear hgw
      clear b0 b1 b2 b3 b4 b5
      clear d0 d1 d2 d3 d4 d5
      clear y0 y1 y2 y3 y4 y5
      clear v0 v1 v2 v3 v4 v5
      have b0 := (H9.out.2.1.1).c 0 rfl
      have b1 := (H9.out.2.1.1).c 1 rfl
      have b2 := (H9.out.2.1.1).c 2 rfl
      have b3 := (H9.out.2.1.1).c 3 rfl
      have b4 := (H9.out.2.1.1).c 4 rfl
      have b5 := (H9.out.2.1.1).c 5 rfl
      have d0 := (H9.out.2.2.1.1).c 0 rfl
      have d1 := (H9.out.2.2.1.1).c 1 rfl
      have d2 := (H9.out.2.2.1.1).c 2 rfl
      have d3 := (H9.out.2.2.1.1).c 3 rfl
      have d4 := (H9.out.2.2.1.1).c 4 rfl
      have d5 := (H9.out.2.2.1.1).c 5 rfl
      have y0 := (H9.out.2.2.2.1.1).c 0 rfl
      have y1 := (H9.out.2.2.2.1.1).c 1 rfl
      have y2 := (H9.out.2.2.2.1.1).c 2 rfl
      have y3 := (H9.out.2.2.2.1.1).c 3 rfl
      have y4 := (H9.out.2.2.2.1.1).c 4 rfl
      have y5 := (H9.out.2.2.2.1.1).c 5 rfl
      have v0 := (H9.out.2.2.2.2.1).c 0 rfl
      have v1 := (H9.out.2.2.2.2.1).c 1 rfl
      have v2 := (H9.out.2.2.2.2.1).c 2 rfl
      have v3 := (H9.out.2.2.2.2.1).c 3 rfl
      have v4 := (H9.out.2.2.2.2.1).c 4 rfl
      have v5 := (H9.out.2.2.2.2.1).c 5 rfl
      go_wp2_with fail
      refine wp_region_held_drew (S := fun w' => w'.cell? ⟨BN, 0, none⟩ = some (.int .i64 P) ∧ w'.cell? ⟨BN, 1, none⟩ = some (.slice a1 M.length c1) ∧ w'.cell? ⟨BN, 2, none⟩ = some (.int .i64 R1) ∧ w'.cell? ⟨BN, 3, none⟩ = some (.int .i64 F1) ∧ w'.cell? ⟨BN, 4, none⟩ = some (.int .i64 S1) ∧ w'.cell? ⟨BN, 5, none⟩ = some (.int .i64 T1) ∧ w'.cell? ⟨BM, 0, none⟩ = some (.int .i64 P) ∧ w'.cell? ⟨BM, 1, none⟩ = some (.slice a2 M.length c2) ∧ w'.cell? ⟨BM, 2, none⟩ = some (.int .i64 R1) ∧ w'.cell? ⟨BM, 3, none⟩ = some (.int .i64 F1) ∧ w'.cell? ⟨BM, 4, none⟩ = some (.int .i64 S1) ∧ w'.cell? ⟨BM, 5, none⟩ = some (.int .i64 T1) ∧ w'.cell? ⟨BY, 0, none⟩ = some (.int .i64 py) ∧ w'.cell? ⟨BY, 1, none⟩ = some (.slice ay ly.length cy) ∧ w'.cell? ⟨BY, 2, none⟩ = some (.int .i64 Ry) ∧ w'.cell? ⟨BY, 3, none⟩ = some (.int .i64 fy) ∧ w'.cell? ⟨BY, 4, none⟩ = some (.int .i64 sy) ∧ w'.cell? ⟨BY, 5, none⟩ = some (.int .i64 ty) ∧ w'.cell? ⟨BV, 0, none⟩ = some (.int .i64 pv) ∧ w'.cell? ⟨BV, 1, none⟩ = some (.slice av lv.length cv) ∧ w'.cell? ⟨BV, 2, none⟩ = some (.int .i64 Rv) ∧ w'.cell? ⟨BV, 3, none⟩ = some (.int .i64 fv) ∧ w'.cell? ⟨BV, 4, none⟩ = some (.int .i64 sv) ∧ w'.cell? ⟨BV, 5, none⟩ = some (.int .i64 tv) ∧ w10.grownBy w' none) (by kernel_rfl) (⟨by first | assumption | (go_simp; done) | (simp [*]; done), by first | assumption | (go_simp; done) | (simp [*]; done), by first | assumption | (go_simp; done) | (simp [*]; done), by first | assumption | (go_simp; done) | (simp [*]; done), by first | assumption | (go_simp; done) | (simp [*]; done), by first | assumption | (go_simp; done) | (simp [*]; done), by first | assumption | (go_simp; done) | (simp [*]; done), by first | assumption | (go_simp; done) | (simp [*]; done), by first | assumption | (go_simp; done) | (simp [*]; done), by first | assumption | (go_simp; done) | (simp [*]; done), by first | assumption | (go_simp; done) | (simp [*]; done), by first | assumption | (go_simp; done) | (simp [*]; done), by first | assumption | (go_simp; done) | (simp [*]; done), by first | assumption | (go_simp; done) | (simp [*]; done), by first | assumption | (go_simp; done) | (simp [*]; done), by first | assumption | (go_simp; done) | (simp [*]; done), by first | assumption | (go_simp; done) | (simp [*]; done), by first | assumption | (go_simp; done) | (simp [*]; done), by first | assumption | (go_simp; done) | (simp [*]; done), by first | assumption | (go_simp; done) | (simp [*]; done), by first | assumption | (go_simp; done) | (simp [*]; done), by first | assumption | (go_simp; done) | (simp [*]; done), by first | assumption | (go_simp; done) | (simp [*]; done), by first | assumption | (go_simp; done) | (simp [*]; done), grownBy_trans (World.grownBy.refl _ _) grownBy_drew⟩) (fun hS => ?_)
      refine wpAnyH_take (i := 0) (v := ?_) rfl (by kernel_rfl) (by kernel_rfl) (by kernel_rfl) (fun _ _ _ h => h) (Or.inl ⟨by kernel_rfl, ?_⟩) hS ?_
      rotate_left
      · intro w' hSw
        obtain ⟨g0, g1, g2, g3, g4, g5, g6, g7, g8, g9, g10, g11, g12, g13, g14, g15, g16, g17, g18, g19, g20, g21, g22, g23, _⟩ := hSw
        first | (go_simp; done) | (go_simp; with_reducible rfl)
      simp only [List.getElem_toArray, List.getElem_cons_zero, Act.put, List.setIfInBounds_toArray, List.set_cons_zero, List.set_cons_succ]
      refine wpAnyH_take (i := 1) (v := ?_) rfl (by kernel_rfl) (by kernel_rfl) (by kernel_rfl) (fun _ _ _ h => h) (Or.inl ⟨by kernel_rfl, ?_⟩) hS ?_
      rotate_left
      · intro w' hSw
        obtain ⟨g0, g1, g2, g3, g4, g5, g6, g7, g8, g9, g10, g11, g12, g13, g14, g15, g16, g17, g18, g19, g20, g21, g22, g23, _⟩ := hSw
        first | (go_simp; done) | (go_simp; with_reducible rfl)
      simp only [List.getElem_toArray, List.getElem_cons_zero, List.getElem_cons_succ, Act.put, List.setIfInBounds_toArray, List.set_cons_zero, List.set_cons_succ]
      refine wpAnyH_take (i := 2) (v := ?_) rfl (by kernel_rfl) (by kernel_rfl) (by kernel_rfl) (fun _ _ _ h => h) (Or.inl ⟨by kernel_rfl, ?_⟩) hS ?_
      rotate_left
      · intro w' hSw
        obtain ⟨g0, g1, g2, g3, g4, g5, g6, g7, g8, g9, g10, g11, g12, g13, g14, g15, g16, g17, g18, g19, g20, g21, g22, g23, _⟩ := hSw
        first | (go_simp; done) | (go_simp; with_reducible rfl)
      simp only [List.getElem_toArray, List.getElem_cons_zero, List.getElem_cons_succ, Act.put, List.setIfInBounds_toArray, List.set_cons_zero, List.set_cons_succ]
      refine wpAnyH_take (i := 3) (v := ?_) rfl (by kernel_rfl) (by kernel_rfl) (by kernel_rfl) (fun _ _ _ h => h) (Or.inl ⟨by kernel_rfl, ?_⟩) hS ?_
      rotate_left
      · intro w' hSw
        obtain ⟨g0, g1, g2, g3, g4, g5, g6, g7, g8, g9, g10, g11, g12, g13, g14, g15, g16, g17, g18, g19, g20, g21, g22, g23, _⟩ := hSw
        first | (go_simp; done) | (go_simp; with_reducible rfl)
      simp only [List.getElem_toArray, List.getElem_cons_zero, List.getElem_cons_succ, Act.put, List.setIfInBounds_toArray, List.set_cons_zero, List.set_cons_succ]
      refine wpAnyH_take (i := 4) (v := ?_) rfl (by kernel_rfl) (by kernel_rfl) (by kernel_rfl) (fun _ _ _ h => h) (Or.inl ⟨by kernel_rfl, ?_⟩) hS ?_
      rotate_left
      · intro w' hSw
        obtain ⟨g0, g1, g2, g3, g4, g5, g6, g7, g8, g9, g10, g11, g12, g13, g14, g15, g16, g17, g18, g19, g20, g21, g22, g23, _⟩ := hSw
        first | (go_simp; done) | (go_simp; with_reducible rfl)
      simp only [List.getElem_toArray, List.getElem_cons_zero, List.getElem_cons_succ, Act.put, List.setIfInBounds_toArray, List.set_cons_zero, List.set_cons_succ]
      refine wpAnyH_take (i := 5) (v := ?_) rfl (by kernel_rfl) (by kernel_rfl) (by kernel_rfl) (fun _ _ _ h => h) (Or.inl ⟨by kernel_rfl, ?_⟩) hS ?_
      rotate_left
      · intro w' hSw
        obtain ⟨g0, g1, g2, g3, g4, g5, g6, g7, g8, g9, g10, g11, g12, g13, g14, g15, g16, g17, g18, g19, g20, g21, g22, g23, _⟩ := hSw
        first | (go_simp; done) | (go_simp; with_reducible rfl)
      simp only [List.getElem_toArray, List.getElem_cons_zero, List.getElem_cons_succ, Act.put, List.setIfInBounds_toArray, List.set_cons_zero, List.set_cons_succ]
      refine wpAnyH_ready (rs := [6]) (by kernel_rfl) (List.cons_ne_nil _ _) ?_
      refine AllReadyH.cons rfl (fun K hK => ?_) AllReadyH.nil
      go_simp
      go_at_call 11
      refine (same_bbr _ _ _ _ _ _ _ _ _ _ _ ((H9.out.2.1.keep (hS.2.2.2.2.2.2.2.2.2.2.2.2.2.2.2.2.2.2.2.2.2.2.2.2)).2) ((H9.out.2.2.1.keep (hS.2.2.2.2.2.2.2.2.2.2.2.2.2.2.2.2.2.2.2.2.2.2.2.2)).2) (by omega)).mono ?_
      rintro e w11 ⟨rfl, hg⟩
      refine hK.out _ _ (⟨hg.cell (hS.1) (by simp), hg.cell (hS.2.1) (by simp), hg.cell (hS.2.2.1) (by simp), hg.cell (hS.2.2.2.1) (by simp), hg.cell (hS.2.2.2.2.1) (by simp), hg.cell (hS.2.2.2.2.2.1) (by simp), hg.cell (hS.2.2.2.2.2.2.1) (by simp), hg.cell (hS.2.2.2.2.2.2.2.1) (by simp), hg.cell (hS.2.2.2.2.2.2.2.2.1) (by simp), hg.cell (hS.2.2.2.2.2.2.2.2.2.1) (by simp), hg.cell (hS.2.2.2.2.2.2.2.2.2.2.1) (by simp), hg.cell (hS.2.2.2.2.2.2.2.2.2.2.2.1) (by simp), hg.cell (hS.2.2.2.2.2.2.2.2.2.2.2.2.1) (by simp), hg.cell (hS.2.2.2.2.2.2.2.2.2.2.2.2.2.1) (by simp), hg.cell (hS.2.2.2.2.2.2.2.2.2.2.2.2.2.2.1) (by simp), hg.cell (hS.2.2.2.2.2.2.2.2.2.2.2.2.2.2.2.1) (by simp), hg.cell (hS.2.2.2.2.2.2.2.2.2.2.2.2.2.2.2.2.1) (by simp), hg.cell (hS.2.2.2.2.2.2.2.2.2.2.2.2.2.2.2.2.2.1) (by simp), hg.cell (hS.2.2.2.2.2.2.2.2.2.2.2.2.2.2.2.2.2.2.1) (by simp), hg.cell (hS.2.2.2.2.2.2.2.2.2.2.2.2.2.2.2.2.2.2.2.1) (by simp), hg.cell (hS.2.2.2.2.2.2.2.2.2.2.2.2.2.2.2.2.2.2.2.2.1) (by simp), hg.cell (hS.2.2.2.2.2.2.2.2.2.2.2.2.2.2.2.2.2.2.2.2.2.1) (by simp), hg.cell (hS.2.2.2.2.2.2.2.2.2.2.2.2.2.2.2.2.2.2.2.2.2.2.1) (by simp), hg.cell (hS.2.2.2.2.2.2.2.2.2.2.2.2.2.2.2.2.2.2.2.2.2.2.2.1) (by simp), grownBy_trans (hS.2.2.2.2.2.2.2.2.2.2.2.2.2.2.2.2.2.2.2.2.2.2.2.2) hg⟩) (fun hS => ?_)
      clear hK
      try simp only [List.getElem_toArray, List.getElem_cons_zero, List.getElem_cons_succ, Act.put, List.setIfInBounds_toArray, List.set_cons_zero, List.set_cons_succ]
      refine wpAnyH_take (i := 7) (v := ?_) rfl (by kernel_rfl) (by kernel_rfl) (by kernel_rfl) (fun _ _ _ h => h) (Or.inl ⟨by kernel_rfl, ?_⟩) hS ?_
      rotate_left
      · intro w' hSw
        obtain ⟨g0, g1, g2, g3, g4, g5, g6, g7, g8, g9, g10, g11, g12, g13, g14, g15, g16, g17, g18, g19, g20, g21, g22, g23, _⟩ := hSw
        first | (go_simp; done) | (go_simp; with_reducible rfl)
      simp only [List.getElem_toArray, List.getElem_cons_zero, List.getElem_cons_succ, Act.put, List.setIfInBounds_toArray, List.set_cons_zero, List.set_cons_succ]
      refine wpAnyH_take (i := 8) (v := ?_) rfl (by kernel_rfl) (by kernel_rfl) (by kernel_rfl) (fun _ _ _ h => h) (Or.inl ⟨by kernel_rfl, ?_⟩) hS ?_
      rotate_left
      · intro w' hSw
        obtain ⟨g0, g1, g2, g3, g4, g5, g6, g7, g8, g9, g10, g11, g12, g13, g14, g15, g16, g17, g18, g19, g20, g21, g22, g23, _⟩ := hSw
        first | (go_simp; done) | (go_simp; with_reducible rfl)
      simp only [List.getElem_toArray, List.getElem_cons_zero, List.getElem_cons_succ, Act.put, List.setIfInBounds_toArray, List.set_cons_zero, List.set_cons_succ]
      refine wpAnyH_take (i := 9) (v := ?_) rfl (by kernel_rfl) (by kernel_rfl) (by kernel_rfl) (fun _ _ _ h => h) (Or.inl ⟨by kernel_rfl, ?_⟩) hS ?_
      rotate_left
      · intro w' hSw
        obtain ⟨g0, g1, g2, g3, g4, g5, g6, g7, g8, g9, g10, g11, g12, g13, g14, g15, g16, g17, g18, g19, g20, g21, g22, g23, _⟩ := hSw
        first | (go_simp; done) | (go_simp; with_reducible rfl)
      simp only [List.getElem_toArray, List.getElem_cons_zero, List.getElem_cons_succ, Act.put, List.setIfInBounds_toArray, List.set_cons_zero, List.set_cons_succ]
      refine wpAnyH_take (i := 11) (v := ?_) rfl (by kernel_rfl) (by kernel_rfl) (by kernel_rfl) (fun _ _ _ h => h) (Or.inl ⟨by kernel_rfl, ?_⟩) hS ?_
      rotate_left
      · intro w' hSw
        obtain ⟨g0, g1, g2, g3, g4, g5, g6, g7, g8, g9, g10, g11, g12, g13, g14, g15, g16, g17, g18, g19, g20, g21, g22, g23, _⟩ := hSw
        first | (go_simp; done) | (go_simp; with_reducible rfl)
      simp only [List.getElem_toArray, List.getElem_cons_zero, List.getElem_cons_succ, Act.put, List.setIfInBounds_toArray, List.set_cons_zero, List.set_cons_succ]
      refine wpAnyH_ready (rs := [10]) (by kernel_rfl) (List.cons_ne_nil _ _) ?_
      refine AllReadyH.cons rfl (fun K hK => ?_) AllReadyH.nil
      go_simp
      go_at_call 12
      refine (bb_ok_impl _ _ _ _ _ _ _ _ _ ((H9.out.2.2.2.1.keep (hS.2.2.2.2.2.2.2.2.2.2.2.2.2.2.2.2.2.2.2.2.2.2.2.2)).2) (by omega)).mono ?_
      rintro e w11 ⟨rfl, hg⟩
      rw [HY.out]
      refine hK.out _ _ (⟨hg.cell (hS.1) (by simp), hg.cell (hS.2.1) (by simp), hg.cell (hS.2.2.1) (by simp), hg.cell (hS.2.2.2.1) (by simp), hg.cell (hS.2.2.2.2.1) (by simp), hg.cell (hS.2.2.2.2.2.1) (by simp), hg.cell (hS.2.2.2.2.2.2.1) (by simp), hg.cell (hS.2.2.2.2.2.2.2.1) (by simp), hg.cell (hS.2.2.2.2.2.2.2.2.1) (by simp), hg.cell (hS.2.2.2.2.2.2.2.2.2.1) (by simp), hg.cell (hS.2.2.2.2.2.2.2.2.2.2.1) (by simp), hg.cell (hS.2.2.2.2.2.2.2.2.2.2.2.1) (by simp), hg.cell (hS.2.2.2.2.2.2.2.2.2.2.2.2.1) (by simp), hg.cell (hS.2.2.2.2.2.2.2.2.2.2.2.2.2.1) (by simp), hg.cell (hS.2.2.2.2.2.2.2.2.2.2.2.2.2.2.1) (by simp), hg.cell (hS.2.2.2.2.2.2.2.2.2.2.2.2.2.2.2.1) (by simp), hg.cell (hS.2.2.2.2.2.2.2.2.2.2.2.2.2.2.2.2.1) (by simp), hg.cell (hS.2.2.2.2.2.2.2.2.2.2.2.2.2.2.2.2.2.1) (by simp), hg.cell (hS.2.2.2.2.2.2.2.2.2.2.2.2.2.2.2.2.2.2.1) (by simp), hg.cell (hS.2.2.2.2.2.2.2.2.2.2.2.2.2.2.2.2.2.2.2.1) (by simp), hg.cell (hS.2.2.2.2.2.2.2.2.2.2.2.2.2.2.2.2.2.2.2.2.1) (by simp), hg.cell (hS.2.2.2.2.2.2.2.2.2.2.2.2.2.2.2.2.2.2.2.2.2.1) (by simp), hg.cell (hS.2.2.2.2.2.2.2.2.2.2.2.2.2.2.2.2.2.2.2.2.2.2.1) (by simp), hg.cell (hS.2.2.2.2.2.2.2.2.2.2.2.2.2.2.2.2.2.2.2.2.2.2.2.1) (by simp), grownBy_trans (hS.2.2.2.2.2.2.2.2.2.2.2.2.2.2.2.2.2.2.2.2.2.2.2.2) hg⟩) (fun hS => ?_)
      clear hK
      try simp only [List.getElem_toArray, List.getElem_cons_zero, List.getElem_cons_succ, Act.put, List.setIfInBounds_toArray, List.set_cons_zero, List.set_cons_succ]
      refine wpAnyH_ready (rs := [12]) (by kernel_rfl) (List.cons_ne_nil _ _) ?_
      refine AllReadyH.cons rfl (fun K hK => ?_) AllReadyH.nil
      go_simp
      go_at_call 13
      refine (bb_ok_spec _ _ _ _ _ _ _ _ _ ((H9.out.2.2.2.1.keep (hS.2.2.2.2.2.2.2.2.2.2.2.2.2.2.2.2.2.2.2.2.2.2.2.2)).2) (by omega)).mono ?_
      rintro e w11 ⟨rfl, hg⟩
      rw [HY.out]
      refine hK.out _ _ (⟨hg.cell (hS.1) (by simp), hg.cell (hS.2.1) (by simp), hg.cell (hS.2.2.1) (by simp), hg.cell (hS.2.2.2.1) (by simp), hg.cell (hS.2.2.2.2.1) (by simp), hg.cell (hS.2.2.2.2.2.1) (by simp), hg.cell (hS.2.2.2.2.2.2.1) (by simp), hg.cell (hS.2.2.2.2.2.2.2.1) (by simp), hg.cell (hS.2.2.2.2.2.2.2.2.1) (by simp), hg.cell (hS.2.2.2.2.2.2.2.2.2.1) (by simp), hg.cell (hS.2.2.2.2.2.2.2.2.2.2.1) (by simp), hg.cell (hS.2.2.2.2.2.2.2.2.2.2.2.1) (by simp), hg.cell (hS.2.2.2.2.2.2.2.2.2.2.2.2.1) (by simp), hg.cell (hS.2.2.2.2.2.2.2.2.2.2.2.2.2.1) (by simp), hg.cell (hS.2.2.2.2.2.2.2.2.2.2.2.2.2.2.1) (by simp), hg.cell (hS.2.2.2.2.2.2.2.2.2.2.2.2.2.2.2.1) (by simp), hg.cell (hS.2.2.2.2.2.2.2.2.2.2.2.2.2.2.2.2.1) (by simp), hg.cell (hS.2.2.2.2.2.2.2.2.2.2.2.2.2.2.2.2.2.1) (by simp), hg.cell (hS.2.2.2.2.2.2.2.2.2.2.2.2.2.2.2.2.2.2.1) (by simp), hg.cell (hS.2.2.2.2.2.2.2.2.2.2.2.2.2.2.2.2.2.2.2.1) (by simp), hg.cell (hS.2.2.2.2.2.2.2.2.2.2.2.2.2.2.2.2.2.2.2.2.1) (by simp), hg.cell (hS.2.2.2.2.2.2.2.2.2.2.2.2.2.2.2.2.2.2.2.2.2.1) (by simp), hg.cell (hS.2.2.2.2.2.2.2.2.2.2.2.2.2.2.2.2.2.2.2.2.2.2.1) (by simp), hg.cell (hS.2.2.2.2.2.2.2.2.2.2.2.2.2.2.2.2.2.2.2.2.2.2.2.1) (by simp), grownBy_trans (hS.2.2.2.2.2.2.2.2.2.2.2.2.2.2.2.2.2.2.2.2.2.2.2.2) hg⟩) (fun hS => ?_)
      clear hK
      try simp only [List.getElem_toArray, List.getElem_cons_zero, List.getElem_cons_succ, Act.put, List.setIfInBounds_toArray, List.set_cons_zero, List.set_cons_succ]
      refine wpAnyH_take (i := 13) (v := ?_) rfl (by kernel_rfl) (by kernel_rfl) (by kernel_rfl) (fun _ _ _ h => h) (Or.inl ⟨by kernel_rfl, ?_⟩) hS ?_
      rotate_left
      · intro w' hSw
        obtain ⟨g0, g1, g2, g3, g4, g5, g6, g7, g8, g9, g10, g11, g12, g13, g14, g15, g16, g17, g18, g19, g20, g21, g22, g23, _⟩ := hSw
        first | (go_simp; done) | (go_simp; with_reducible rfl)
      simp only [List.getElem_toArray, List.getElem_cons_zero, List.getElem_cons_succ, Act.put, List.setIfInBounds_toArray, List.set_cons_zero, List.set_cons_succ]
      refine wpAnyH_take (i := 14) (v := ?_) rfl (by kernel_rfl) (by kernel_rfl) (by kernel_rfl) (fun _ _ _ h => h) (Or.inl ⟨by kernel_rfl, ?_⟩) hS ?_
      rotate_left
      · intro w' hSw
        obtain ⟨g0, g1, g2, g3, g4, g5, g6, g7, g8, g9, g10, g11, g12, g13, g14, g15, g16, g17, g18, g19, g20, g21, g22, g23, _⟩ := hSw
        first | (go_simp; done) | (go_simp; with_reducible rfl)
      simp only [List.getElem_toArray, List.getElem_cons_zero, List.getElem_cons_succ, Act.put, List.setIfInBounds_toArray, List.set_cons_zero, List.set_cons_succ]
      refine wpAnyH_take (i := 15) (v := ?_) rfl (by kernel_rfl) (by kernel_rfl) (by kernel_rfl) (fun _ _ _ h => h) (Or.inl ⟨by kernel_rfl, ?_⟩) hS ?_
      rotate_left
      · intro w' hSw
        obtain ⟨g0, g1, g2, g3, g4, g5, g6, g7, g8, g9, g10, g11, g12, g13, g14, g15, g16, g17, g18, g19, g20, g21, g22, g23, _⟩ := hSw
        first | (go_simp; done) | (go_simp; with_reducible rfl)
      simp only [List.getElem_toArray, List.getElem_cons_zero, List.getElem_cons_succ, Act.put, List.setIfInBounds_toArray, List.set_cons_zero, List.set_cons_succ]
      refine wpAnyH_take (i := 16) (v := ?_) rfl (by kernel_rfl) (by kernel_rfl) (by kernel_rfl) (fun _ _ _ h => h) (Or.inl ⟨by kernel_rfl, ?_⟩) hS ?_
      rotate_left
      · intro w' hSw
        obtain ⟨g0, g1, g2, g3, g4, g5, g6, g7, g8, g9, g10, g11, g12, g13, g14, g15, g16, g17, g18, g19, g20, g21, g22, g23, _⟩ := hSw
        first | (go_simp; done) | (go_simp; with_reducible rfl)
      simp only [List.getElem_toArray, List.getElem_cons_zero, List.getElem_cons_succ, Act.put, List.setIfInBounds_toArray, List.set_cons_zero, List.set_cons_succ]
      refine wpAnyH_take (i := 18) (v := ?_) rfl (by kernel_rfl) (by kernel_rfl) (by kernel_rfl) (fun _ _ _ h => h) (Or.inl ⟨by kernel_rfl, ?_⟩) hS ?_
      rotate_left
      · intro w' hSw
        obtain ⟨g0, g1, g2, g3, g4, g5, g6, g7, g8, g9, g10, g11, g12, g13, g14, g15, g16, g17, g18, g19, g20, g21, g22, g23, _⟩ := hSw
        first | (go_simp; done) | (go_simp; with_reducible rfl)
      simp only [List.getElem_toArray, List.getElem_cons_zero, List.getElem_cons_succ, Act.put, List.setIfInBounds_toArray, List.set_cons_zero, List.set_cons_succ]
      refine wpAnyH_ready (rs := [17]) (by kernel_rfl) (List.cons_ne_nil _ _) ?_
      refine AllReadyH.cons rfl (fun K hK => ?_) AllReadyH.nil
      go_simp
      go_at_call 14
      refine (win_impl _ _ _ _ _ _ _ _ _ ((H9.out.2.2.2.2.keep (hS.2.2.2.2.2.2.2.2.2.2.2.2.2.2.2.2.2.2.2.2.2.2.2.2)).2) (by omega)).mono ?_
      rintro e w11 ⟨rfl, hg⟩
      rw [HV.out]
      refine hK.out _ _ (⟨hg.cell (hS.1) (by simp), hg.cell (hS.2.1) (by simp), hg.cell (hS.2.2.1) (by simp), hg.cell (hS.2.2.2.1) (by simp), hg.cell (hS.2.2.2.2.1) (by simp), hg.cell (hS.2.2.2.2.2.1) (by simp), hg.cell (hS.2.2.2.2.2.2.1) (by simp), hg.cell (hS.2.2.2.2.2.2.2.1) (by simp), hg.cell (hS.2.2.2.2.2.2.2.2.1) (by simp), hg.cell (hS.2.2.2.2.2.2.2.2.2.1) (by simp), hg.cell (hS.2.2.2.2.2.2.2.2.2.2.1) (by simp), hg.cell (hS.2.2.2.2.2.2.2.2.2.2.2.1) (by simp), hg.cell (hS.2.2.2.2.2.2.2.2.2.2.2.2.1) (by simp), hg.cell (hS.2.2.2.2.2.2.2.2.2.2.2.2.2.1) (by simp), hg.cell (hS.2.2.2.2.2.2.2.2.2.2.2.2.2.2.1) (by simp), hg.cell (hS.2.2.2.2.2.2.2.2.2.2.2.2.2.2.2.1) (by simp), hg.cell (hS.2.2.2.2.2.2.2.2.2.2.2.2.2.2.2.2.1) (by simp), hg.cell (hS.2.2.2.2.2.2.2.2.2.2.2.2.2.2.2.2.2.1) (by simp), hg.cell (hS.2.2.2.2.2.2.2.2.2.2.2.2.2.2.2.2.2.2.1) (by simp), hg.cell (hS.2.2.2.2.2.2.2.2.2.2.2.2.2.2.2.2.2.2.2.1) (by simp), hg.cell (hS.2.2.2.2.2.2.2.2.2.2.2.2.2.2.2.2.2.2.2.2.1) (by simp), hg.cell (hS.2.2.2.2.2.2.2.2.2.2.2.2.2.2.2.2.2.2.2.2.2.1) (by simp), hg.cell (hS.2.2.2.2.2.2.2.2.2.2.2.2.2.2.2.2.2.2.2.2.2.2.1) (by simp), hg.cell (hS.2.2.2.2.2.2.2.2.2.2.2.2.2.2.2.2.2.2.2.2.2.2.2.1) (by simp), grownBy_trans (hS.2.2.2.2.2.2.2.2.2.2.2.2.2.2.2.2.2.2.2.2.2.2.2.2) hg⟩) (fun hS => ?_)
      clear hK
      try simp only [List.getElem_toArray, List.getElem_cons_zero, List.getElem_cons_succ, Act.put, List.setIfInBounds_toArray, List.set_cons_zero, List.set_cons_succ]
      refine wpAnyH_ready (rs := [19]) (by kernel_rfl) (List.cons_ne_nil _ _) ?_
      refine AllReadyH.cons rfl (fun K hK => ?_) AllReadyH.nil
      go_simp
      go_at_call 15
      refine (win_spec _ _ _ _ _ _ _ _ _ ((H9.out.2.2.2.2.keep (hS.2.2.2.2.2.2.2.2.2.2.2.2.2.2.2.2.2.2.2.2.2.2.2.2)).2) (by omega)).mono ?_
      rintro e w11 ⟨rfl, hg⟩
      rw [HV.out]
      refine hK.out _ _ (⟨hg.cell (hS.1) (by simp), hg.cell (hS.2.1) (by simp), hg.cell (hS.2.2.1) (by simp), hg.cell (hS.2.2.2.1) (by simp), hg.cell (hS.2.2.2.2.1) (by simp), hg.cell (hS.2.2.2.2.2.1) (by simp), hg.cell (hS.2.2.2.2.2.2.1) (by simp), hg.cell (hS.2.2.2.2.2.2.2.1) (by simp), hg.cell (hS.2.2.2.2.2.2.2.2.1) (by simp), hg.cell (hS.2.2.2.2.2.2.2.2.2.1) (by simp), hg.cell (hS.2.2.2.2.2.2.2.2.2.2.1) (by simp), hg.cell (hS.2.2.2.2.2.2.2.2.2.2.2.1) (by simp), hg.cell (hS.2.2.2.2.2.2.2.2.2.2.2.2.1) (by simp), hg.cell (hS.2.2.2.2.2.2.2.2.2.2.2.2.2.1) (by simp), hg.cell (hS.2.2.2.2.2.2.2.2.2.2.2.2.2.2.1) (by simp), hg.cell (hS.2.2.2.2.2.2.2.2.2.2.2.2.2.2.2.1) (by simp), hg.cell (hS.2.2.2.2.2.2.2.2.2.2.2.2.2.2.2.2.1) (by simp), hg.cell (hS.2.2.2.2.2.2.2.2.2.2.2.2.2.2.2.2.2.1) (by simp), hg.cell (hS.2.2.2.2.2.2.2.2.2.2.2.2.2.2.2.2.2.2.1) (by simp), hg.cell (hS.2.2.2.2.2.2.2.2.2.2.2.2.2.2.2.2.2.2.2.1) (by simp), hg.cell (hS.2.2.2.2.2.2.2.2.2.2.2.2.2.2.2.2.2.2.2.2.1) (by simp), hg.cell (hS.2.2.2.2.2.2.2.2.2.2.2.2.2.2.2.2.2.2.2.2.2.1) (by simp), hg.cell (hS.2.2.2.2.2.2.2.2.2.2.2.2.2.2.2.2.2.2.2.2.2.2.1) (by simp), hg.cell (hS.2.2.2.2.2.2.2.2.2.2.2.2.2.2.2.2.2.2.2.2.2.2.2.1) (by simp), grownBy_trans (hS.2.2.2.2.2.2.2.2.2.2.2.2.2.2.2.2.2.2.2.2.2.2.2.2) hg⟩) (fun hS => ?_)
      clear hK
      try simp only [List.getElem_toArray, List.getElem_cons_zero, List.getElem_cons_succ, Act.put, List.setIfInBounds_toArray, List.set_cons_zero, List.set_cons_succ]
      refine wpAnyH_take (i := 20) (v := ?_) rfl (by kernel_rfl) (by kernel_rfl) (by kernel_rfl) (fun _ _ _ h => h) (Or.inl ⟨by kernel_rfl, ?_⟩) hS ?_
      rotate_left
      · intro w' hSw
        obtain ⟨g0, g1, g2, g3, g4, g5, g6, g7, g8, g9, g10, g11, g12, g13, g14, g15, g16, g17, g18, g19, g20, g21, g22, g23, _⟩ := hSw
        first | (go_simp; done) | (go_simp; with_reducible rfl)
      simp only [List.getElem_toArray, List.getElem_cons_zero, List.getElem_cons_succ, Act.put, List.setIfInBounds_toArray, List.set_cons_zero, List.set_cons_succ]
      refine wpAnyH_take (i := 21) (v := ?_) rfl (by kernel_rfl) (by kernel_rfl) (by kernel_rfl) (fun _ _ _ h => h) (Or.inl ⟨by kernel_rfl, ?_⟩) hS ?_
      rotate_left
      · intro w' hSw
        obtain ⟨g0, g1, g2, g3, g4, g5, g6, g7, g8, g9, g10, g11, g12, g13, g14, g15, g16, g17, g18, g19, g20, g21, g22, g23, _⟩ := hSw
        first | (go_simp; done) | (go_simp; with_reducible rfl)
      simp only [List.getElem_toArray, List.getElem_cons_zero, List.getElem_cons_succ, Act.put, List.setIfInBounds_toArray, List.set_cons_zero, List.set_cons_succ]
      refine wpAnyH_take (i := 22) (v := ?_) rfl (by kernel_rfl) (by kernel_rfl) (by kernel_rfl) (fun _ _ _ h => h) (Or.inl ⟨by kernel_rfl, ?_⟩) hS ?_
      rotate_left
      · intro w' hSw
        obtain ⟨g0, g1, g2, g3, g4, g5, g6, g7, g8, g9, g10, g11, g12, g13, g14, g15, g16, g17, g18, g19, g20, g21, g22, g23, _⟩ := hSw
        first | (go_simp; done) | (go_simp; with_reducible rfl)
      simp only [List.getElem_toArray, List.getElem_cons_zero, List.getElem_cons_succ, Act.put, List.setIfInBounds_toArray, List.set_cons_zero, List.set_cons_succ]
      refine wpAnyH_done (by kernel_rfl) ?_ _
      have hgw := hS.2.2.2.2.2.2.2.2.2.2.2.2.2.2.2.2.2.2.2.2.2.2.2.2
      go_wp2_with fail
      go_ret
      exact ⟨by simp, below_new (grownBy_trans H9.out.1.g hgw)⟩
    · have hP := stepOk_of HU.out.1
      have hN : stepN (⟨p, l, R, f, s, t⟩ : Bb) (tx, rx) q fl = ⟨P, M, R1, F1, S1, T1⟩ := by rw [← stepB_yes hP]; exact HU.out.2
      have hG := step_good hP
      rw [hN] at hG
      obtain ⟨hG1, hG2, hG3, hG4, hG5⟩ := hG
      dsimp only at hG1 hG2 hG3 hG4 hG5
      have hp := (bb_of hP.1).2.2.2
      dsimp only at hp
      have hwp : IntKind.i64.wrap (p + 1) = p + 1 := IntWalk.i64_in _ (by omega)
      have HOK := Lib.hid hG1
      have hW4 := win_four hG1
      obtain ⟨W4, hWW⟩ : ∃ o, winF P M R1 F1 S1 T1 = o := ⟨_, rfl⟩
      rw [hWW] at hW4
      have HW4 := Lib.hid hWW
      clear hP hN hG1 hp hWW
      refine wp_region_held_drew (S := fun w' => w'.cell? ⟨BN, 0, none⟩ = some (.int .i64 P) ∧ w'.cell? ⟨BN, 1, none⟩ = some (.slice a1 M.length c1) ∧ w'.cell? ⟨BN, 2, none⟩ = some (.int .i64 R1) ∧ w'.cell? ⟨BN, 3, none⟩ = some (.int .i64 F1) ∧ w'.cell? ⟨BN, 4, none⟩ = some (.int .i64 S1) ∧ w'.cell? ⟨BN, 5, none⟩ = some (.int .i64 T1) ∧ w'.cell? ⟨BM, 0, none⟩ = some (.int .i64 P) ∧ w'.cell? ⟨BM, 1, none⟩ = some (.slice a2 M.length c2) ∧ w'.cell? ⟨BM, 2, none⟩ = some (.int .i64 R1) ∧ w'.cell? ⟨BM, 3, none⟩ = some (.int .i64 F1) ∧ w'.cell? ⟨BM, 4, none⟩ = some (.int .i64 S1) ∧ w'.cell? ⟨BM, 5, none⟩ = some (.int .i64 T1) ∧ w'.cell? ⟨BY, 0, none⟩ = some (.int .i64 py) ∧ w'.cell? ⟨BY, 1, none⟩ = some (.slice ay ly.length cy) ∧ w'.cell? ⟨BY, 2, none⟩ = some (.int .i64 Ry) ∧ w'.cell? ⟨BY, 3, none⟩ = some (.int .i64 fy) ∧ w'.cell? ⟨BY, 4, none⟩ = some (.int .i64 sy) ∧ w'.cell? ⟨BY, 5, none⟩ = some (.int .i64 ty) ∧ w'.cell? ⟨BV, 0, none⟩ = some (.int .i64 pv) ∧ w'.cell? ⟨BV, 1, none⟩ = some (.slice av lv.length cv) ∧ w'.cell? ⟨BV, 2, none⟩ = some (.int .i64 Rv) ∧ w'.cell? ⟨BV, 3, none⟩ = some (.int .i64 fv) ∧ w'.cell? ⟨BV, 4, none⟩ = some (.int .i64 sv) ∧ w'.cell? ⟨BV, 5, none⟩ = some (.int .i64 tv) ∧ w9.grownBy w' none) (by kernel_rfl) (⟨by first | assumption | (go_simp; done) | (simp [*]; done), by first | assumption | (go_simp; done) | (simp [*]; done), by first | assumption | (go_simp; done) | (simp [*]; done), by first | assumption | (go_simp; done) | (simp [*]; done), by first | assumption | (go_simp; done) | (simp [*]; done), by first | assumption | (go_simp; done) | (simp [*]; done), by first | assumption | (go_simp; done) | (simp [*]; done), by first | assumption | (go_simp; done) | (simp [*]; done), by first | assumption | (go_simp; done) | (simp [*]; done), by first | assumption | (go_simp; done) | (simp [*]; done), by first | assumption | (go_simp; done) | (simp [*]; done), by first | assumption | (go_simp; done) | (simp [*]; done), by first | assumption | (go_simp; done) | (simp [*]; done), by first | assumption | (go_simp; done) | (simp [*]; done), by first | assumption | (go_simp; done) | (simp [*]; done), by first | assumption | (go_simp; done) | (simp [*]; done), by first | assumption | (go_simp; done) | (simp [*]; done), by first | assumption | (go_simp; done) | (simp [*]; done), by first | assumption | (go_simp; done) | (simp [*]; done), by first | assumption | (go_simp; done) | (simp [*]; done), by first | assumption | (go_simp; done) | (simp [*]; done), by first | assumption | (go_simp; done) | (simp [*]; done), by first | assumption | (go_simp; done) | (simp [*]; done), by first | assumption | (go_simp; done) | (simp [*]; done), grownBy_trans (World.grownBy.refl _ _) grownBy_drew⟩) (fun hS => ?_)
      refine wpAnyH_take (i := 0) (v := ?_) rfl (by kernel_rfl) (by kernel_rfl) (by kernel_rfl) (fun _ _ _ h => h) (Or.inl ⟨by kernel_rfl, ?_⟩) hS ?_
      rotate_left
      · intro w' hSw
        obtain ⟨g0, g1, g2, g3, g4, g5, g6, g7, g8, g9, g10, g11, g12, g13, g14, g15, g16, g17, g18, g19, g20, g21, g22, g23, _⟩ := hSw
        first | (go_simp; done) | (go_simp; with_reducible rfl)
      simp only [List.getElem_toArray, List.getElem_cons_zero, Act.put, List.setIfInBounds_toArray, List.set_cons_zero, List.set_cons_succ]
      refine wpAnyH_take (i := 1) (v := ?_) rfl (by kernel_rfl) (by kernel_rfl) (by kernel_rfl) (fun _ _ _ h => h) (Or.inl ⟨by kernel_rfl, ?_⟩) hS ?_
      rotate_left
      · intro w' hSw
        obtain ⟨g0, g1, g2, g3, g4, g5, g6, g7, g8, g9, g10, g11, g12, g13, g14, g15, g16, g17, g18, g19, g20, g21, g22, g23, _⟩ := hSw
        first | (go_simp; done) | (go_simp; with_reducible rfl)
      simp only [List.getElem_toArray, List.getElem_cons_zero, List.getElem_cons_succ, Act.put, List.setIfInBounds_toArray, List.set_cons_zero, List.set_cons_succ]
      refine wpAnyH_take (i := 2) (v := ?_) rfl (by kernel_rfl) (by kernel_rfl) (by kernel_rfl) (fun _ _ _ h => h) (Or.inl ⟨by kernel_rfl, ?_⟩) hS ?_
      rotate_left
      · intro w' hSw
        obtain ⟨g0, g1, g2, g3, g4, g5, g6, g7, g8, g9, g10, g11, g12, g13, g14, g15, g16, g17, g18, g19, g20, g21, g22, g23, _⟩ := hSw
        first | (go_simp; done) | (go_simp; with_reducible rfl)
      simp only [List.getElem_toArray, List.getElem_cons_zero, List.getElem_cons_succ, Act.put, List.setIfInBounds_toArray, List.set_cons_zero, List.set_cons_succ]
      refine wpAnyH_take (i := 3) (v := ?_) rfl (by kernel_rfl) (by kernel_rfl) (by kernel_rfl) (fun _ _ _ h => h) (Or.inl ⟨by kernel_rfl, ?_⟩) hS ?_
      rotate_left
      · intro w' hSw
        obtain ⟨g0, g1, g2, g3, g4, g5, g6, g7, g8, g9, g10, g11, g12, g13, g14, g15, g16, g17, g18, g19, g20, g21, g22, g23, _⟩ := hSw
        first | (go_simp; done) | (go_simp; with_reducible rfl)
      simp only [List.getElem_toArray, List.getElem_cons_zero, List.getElem_cons_succ, Act.put, List.setIfInBounds_toArray, List.set_cons_zero, List.set_cons_succ]
      refine wpAnyH_take (i := 4) (v := ?_) rfl (by kernel_rfl) (by kernel_rfl) (by kernel_rfl) (fun _ _ _ h => h) (Or.inl ⟨by kernel_rfl, ?_⟩) hS ?_
      rotate_left
      · intro w' hSw
        obtain ⟨g0, g1, g2, g3, g4, g5, g6, g7, g8, g9, g10, g11, g12, g13, g14, g15, g16, g17, g18, g19, g20, g21, g22, g23, _⟩ := hSw
        first | (go_simp; done) | (go_simp; with_reducible rfl)
      simp only [List.getElem_toArray, List.getElem_cons_zero, List.getElem_cons_succ, Act.put, List.setIfInBounds_toArray, List.set_cons_zero, List.set_cons_succ]
      refine wpAnyH_take (i := 5) (v := ?_) rfl (by kernel_rfl) (by kernel_rfl) (by kernel_rfl) (fun _ _ _ h => h) (Or.inl ⟨by kernel_rfl, ?_⟩) hS ?_
      rotate_left
      · intro w' hSw
        obtain ⟨g0, g1, g2, g3, g4, g5, g6, g7, g8, g9, g10, g11, g12, g13, g14, g15, g16, g17, g18, g19, g20, g21, g22, g23, _⟩ := hSw
        first | (go_simp; done) | (go_simp; with_reducible rfl)
      simp only [List.getElem_toArray, List.getElem_cons_zero, List.getElem_cons_succ, Act.put, List.setIfInBounds_toArray, List.set_cons_zero, List.set_cons_succ]
      refine wpAnyH_ready (rs := [6]) (by kernel_rfl) (List.cons_ne_nil _ _) ?_
      refine AllReadyH.cons rfl (fun K hK => ?_) AllReadyH.nil
      go_simp
      go_at_call 11
      refine (same_bbr _ _ _ _ _ _ _ _ _ _ _ ((H9.out.2.1.keep (hS.2.2.2.2.2.2.2.2.2.2.2.2.2.2.2.2.2.2.2.2.2.2.2.2)).2) ((H9.out.2.2.1.keep (hS.2.2.2.2.2.2.2.2.2.2.2.2.2.2.2.2.2.2.2.2.2.2.2.2)).2) (by omega)).mono ?_
      rintro e w10 ⟨rfl, hg⟩
      refine hK.out _ _ (⟨hg.cell (hS.1) (by simp), hg.cell (hS.2.1) (by simp), hg.cell (hS.2.2.1) (by simp), hg.cell (hS.2.2.2.1) (by simp), hg.cell (hS.2.2.2.2.1) (by simp), hg.cell (hS.2.2.2.2.2.1) (by simp), hg.cell (hS.2.2.2.2.2.2.1) (by simp), hg.cell (hS.2.2.2.2.2.2.2.1) (by simp), hg.cell (hS.2.2.2.2.2.2.2.2.1) (by simp), hg.cell (hS.2.2.2.2.2.2.2.2.2.1) (by simp), hg.cell (hS.2.2.2.2.2.2.2.2.2.2.1) (by simp), hg.cell (hS.2.2.2.2.2.2.2.2.2.2.2.1) (by simp), hg.cell (hS.2.2.2.2.2.2.2.2.2.2.2.2.1) (by simp), hg.cell (hS.2.2.2.2.2.2.2.2.2.2.2.2.2.1) (by simp), hg.cell (hS.2.2.2.2.2.2.2.2.2.2.2.2.2.2.1) (by simp), hg.cell (hS.2.2.2.2.2.2.2.2.2.2.2.2.2.2.2.1) (by simp), hg.cell (hS.2.2.2.2.2.2.2.2.2.2.2.2.2.2.2.2.1) (by simp), hg.cell (hS.2.2.2.2.2.2.2.2.2.2.2.2.2.2.2.2.2.1) (by simp), hg.cell (hS.2.2.2.2.2.2.2.2.2.2.2.2.2.2.2.2.2.2.1) (by simp), hg.cell (hS.2.2.2.2.2.2.2.2.2.2.2.2.2.2.2.2.2.2.2.1) (by simp), hg.cell (hS.2.2.2.2.2.2.2.2.2.2.2.2.2.2.2.2.2.2.2.2.1) (by simp), hg.cell (hS.2.2.2.2.2.2.2.2.2.2.2.2.2.2.2.2.2.2.2.2.2.1) (by simp), hg.cell (hS.2.2.2.2.2.2.2.2.2.2.2.2.2.2.2.2.2.2.2.2.2.2.1) (by simp), hg.cell (hS.2.2.2.2.2.2.2.2.2.2.2.2.2.2.2.2.2.2.2.2.2.2.2.1) (by simp), grownBy_trans (hS.2.2.2.2.2.2.2.2.2.2.2.2.2.2.2.2.2.2.2.2.2.2.2.2) hg⟩) (fun hS => ?_)
      clear hK
      try simp only [List.getElem_toArray, List.getElem_cons_zero, List.getElem_cons_succ, Act.put, List.setIfInBounds_toArray, List.set_cons_zero, List.set_cons_succ]
      refine wpAnyH_take (i := 7) (v := ?_) rfl (by kernel_rfl) (by kernel_rfl) (by kernel_rfl) (fun _ _ _ h => h) (Or.inl ⟨by kernel_rfl, ?_⟩) hS ?_
      rotate_left
      · intro w' hSw
        obtain ⟨g0, g1, g2, g3, g4, g5, g6, g7, g8, g9, g10, g11, g12, g13, g14, g15, g16, g17, g18, g19, g20, g21, g22, g23, _⟩ := hSw
        first | (go_simp; done) | (go_simp; with_reducible rfl)
      simp only [List.getElem_toArray, List.getElem_cons_zero, List.getElem_cons_succ, Act.put, List.setIfInBounds_toArray, List.set_cons_zero, List.set_cons_succ]
      refine wpAnyH_take (i := 8) (v := ?_) rfl (by kernel_rfl) (by kernel_rfl) (by kernel_rfl) (fun _ _ _ h => h) (Or.inl ⟨by kernel_rfl, ?_⟩) hS ?_
      rotate_left
      · intro w' hSw
        obtain ⟨g0, g1, g2, g3, g4, g5, g6, g7, g8, g9, g10, g11, g12, g13, g14, g15, g16, g17, g18, g19, g20, g21, g22, g23, _⟩ := hSw
        first | (go_simp; done) | (go_simp; with_reducible rfl)
      simp only [List.getElem_toArray, List.getElem_cons_zero, List.getElem_cons_succ, Act.put, List.setIfInBounds_toArray, List.set_cons_zero, List.set_cons_succ]
      refine wpAnyH_take (i := 9) (v := ?_) rfl (by kernel_rfl) (by kernel_rfl) (by kernel_rfl) (fun _ _ _ h => h) (Or.inl ⟨by kernel_rfl, ?_⟩) hS ?_
      rotate_left
      · intro w' hSw
        obtain ⟨g0, g1, g2, g3, g4, g5, g6, g7, g8, g9, g10, g11, g12, g13, g14, g15, g16, g17, g18, g19, g20, g21, g22, g23, _⟩ := hSw
        first | (go_simp; done) | (go_simp; with_reducible rfl)
      simp only [List.getElem_toArray, List.getElem_cons_zero, List.getElem_cons_succ, Act.put, List.setIfInBounds_toArray, List.set_cons_zero, List.set_cons_succ]
      refine wpAnyH_take (i := 10) (v := ?_) rfl (by kernel_rfl) (by kernel_rfl) (by kernel_rfl) (fun _ _ _ h => h) (Or.inl ⟨by kernel_rfl, ?_⟩) hS ?_
      rotate_left
      · intro w' hSw
        obtain ⟨g0, g1, g2, g3, g4, g5, g6, g7, g8, g9, g10, g11, g12, g13, g14, g15, g16, g17, g18, g19, g20, g21, g22, g23, _⟩ := hSw
        first | (go_simp; done) | (go_simp; with_reducible rfl)
      simp only [List.getElem_toArray, List.getElem_cons_zero, List.getElem_cons_succ, Act.put, List.setIfInBounds_toArray, List.set_cons_zero, List.set_cons_succ]
      refine wpAnyH_take (i := 12) (v := ?_) rfl (by kernel_rfl) (by kernel_rfl) (by kernel_rfl) (fun _ _ _ h => h) (Or.inl ⟨by kernel_rfl, ?_⟩) hS ?_
      rotate_left
      · intro w' hSw
        obtain ⟨g0, g1, g2, g3, g4, g5, g6, g7, g8, g9, g10, g11, g12, g13, g14, g15, g16, g17, g18, g19, g20, g21, g22, g23, _⟩ := hSw
        first | (go_simp; done) | (go_simp; with_reducible rfl)
      simp only [List.getElem_toArray, List.getElem_cons_zero, List.getElem_cons_succ, Act.put, List.setIfInBounds_toArray, List.set_cons_zero, List.set_cons_succ]
      refine wpAnyH_ready (rs := [11]) (by kernel_rfl) (List.cons_ne_nil _ _) ?_
      refine AllReadyH.cons rfl (fun K hK => ?_) AllReadyH.nil
      go_simp
      go_at_call 12
      refine (bb_ok_impl _ _ _ _ _ _ _ _ _ ((H9.out.2.2.2.1.keep (hS.2.2.2.2.2.2.2.2.2.2.2.2.2.2.2.2.2.2.2.2.2.2.2.2)).2) (by omega)).mono ?_
      rintro e w10 ⟨rfl, hg⟩
      rw [HY.out]
      refine hK.out _ _ (⟨hg.cell (hS.1) (by simp), hg.cell (hS.2.1) (by simp), hg.cell (hS.2.2.1) (by simp), hg.cell (hS.2.2.2.1) (by simp), hg.cell (hS.2.2.2.2.1) (by simp), hg.cell (hS.2.2.2.2.2.1) (by simp), hg.cell (hS.2.2.2.2.2.2.1) (by simp), hg.cell (hS.2.2.2.2.2.2.2.1) (by simp), hg.cell (hS.2.2.2.2.2.2.2.2.1) (by simp), hg.cell (hS.2.2.2.2.2.2.2.2.2.1) (by simp), hg.cell (hS.2.2.2.2.2.2.2.2.2.2.1) (by simp), hg.cell (hS.2.2.2.2.2.2.2.2.2.2.2.1) (by simp), hg.cell (hS.2.2.2.2.2.2.2.2.2.2.2.2.1) (by simp), hg.cell (hS.2.2.2.2.2.2.2.2.2.2.2.2.2.1) (by simp), hg.cell (hS.2.2.2.2.2.2.2.2.2.2.2.2.2.2.1) (by simp), hg.cell (hS.2.2.2.2.2.2.2.2.2.2.2.2.2.2.2.1) (by simp), hg.cell (hS.2.2.2.2.2.2.2.2.2.2.2.2.2.2.2.2.1) (by simp), hg.cell (hS.2.2.2.2.2.2.2.2.2.2.2.2.2.2.2.2.2.1) (by simp), hg.cell (hS.2.2.2.2.2.2.2.2.2.2.2.2.2.2.2.2.2.2.1) (by simp), hg.cell (hS.2.2.2.2.2.2.2.2.2.2.2.2.2.2.2.2.2.2.2.1) (by simp), hg.cell (hS.2.2.2.2.2.2.2.2.2.2.2.2.2.2.2.2.2.2.2.2.1) (by simp), hg.cell (hS.2.2.2.2.2.2.2.2.2.2.2.2.2.2.2.2.2.2.2.2.2.1) (by simp), hg.cell (hS.2.2.2.2.2.2.2.2.2.2.2.2.2.2.2.2.2.2.2.2.2.2.1) (by simp), hg.cell (hS.2.2.2.2.2.2.2.2.2.2.2.2.2.2.2.2.2.2.2.2.2.2.2.1) (by simp), grownBy_trans (hS.2.2.2.2.2.2.2.2.2.2.2.2.2.2.2.2.2.2.2.2.2.2.2.2) hg⟩) (fun hS => ?_)
      clear hK
      try simp only [List.getElem_toArray, List.getElem_cons_zero, List.getElem_cons_succ, Act.put, List.setIfInBounds_toArray, List.set_cons_zero, List.set_cons_succ]
      refine wpAnyH_ready (rs := [13]) (by kernel_rfl) (List.cons_ne_nil _ _) ?_
      refine AllReadyH.cons rfl (fun K hK => ?_) AllReadyH.nil
      go_simp
      go_at_call 13
      refine (bb_ok_spec _ _ _ _ _ _ _ _ _ ((H9.out.2.2.2.1.keep (hS.2.2.2.2.2.2.2.2.2.2.2.2.2.2.2.2.2.2.2.2.2.2.2.2)).2) (by omega)).mono ?_
      rintro e w10 ⟨rfl, hg⟩
      rw [HY.out]
      refine hK.out _ _ (⟨hg.cell (hS.1) (by simp), hg.cell (hS.2.1) (by simp), hg.cell (hS.2.2.1) (by simp), hg.cell (hS.2.2.2.1) (by simp), hg.cell (hS.2.2.2.2.1) (by simp), hg.cell (hS.2.2.2.2.2.1) (by simp), hg.cell (hS.2.2.2.2.2.2.1) (by simp), hg.cell (hS.2.2.2.2.2.2.2.1) (by simp), hg.cell (hS.2.2.2.2.2.2.2.2.1) (by simp), hg.cell (hS.2.2.2.2.2.2.2.2.2.1) (by simp), hg.cell (hS.2.2.2.2.2.2.2.2.2.2.1) (by simp), hg.cell (hS.2.2.2.2.2.2.2.2.2.2.2.1) (by simp), hg.cell (hS.2.2.2.2.2.2.2.2.2.2.2.2.1) (by simp), hg.cell (hS.2.2.2.2.2.2.2.2.2.2.2.2.2.1) (by simp), hg.cell (hS.2.2.2.2.2.2.2.2.2.2.2.2.2.2.1) (by simp), hg.cell (hS.2.2.2.2.2.2.2.2.2.2.2.2.2.2.2.1) (by simp), hg.cell (hS.2.2.2.2.2.2.2.2.2.2.2.2.2.2.2.2.1) (by simp), hg.cell (hS.2.2.2.2.2.2.2.2.2.2.2.2.2.2.2.2.2.1) (by simp), hg.cell (hS.2.2.2.2.2.2.2.2.2.2.2.2.2.2.2.2.2.2.1) (by simp), hg.cell (hS.2.2.2.2.2.2.2.2.2.2.2.2.2.2.2.2.2.2.2.1) (by simp), hg.cell (hS.2.2.2.2.2.2.2.2.2.2.2.2.2.2.2.2.2.2.2.2.1) (by simp), hg.cell (hS.2.2.2.2.2.2.2.2.2.2.2.2.2.2.2.2.2.2.2.2.2.1) (by simp), hg.cell (hS.2.2.2.2.2.2.2.2.2.2.2.2.2.2.2.2.2.2.2.2.2.2.1) (by simp), hg.cell (hS.2.2.2.2.2.2.2.2.2.2.2.2.2.2.2.2.2.2.2.2.2.2.2.1) (by simp), grownBy_trans (hS.2.2.2.2.2.2.2.2.2.2.2.2.2.2.2.2.2.2.2.2.2.2.2.2) hg⟩) (fun hS => ?_)
      clear hK
      try simp only [List.getElem_toArray, List.getElem_cons_zero, List.getElem_cons_succ, Act.put, List.setIfInBounds_toArray, List.set_cons_zero, List.set_cons_succ]
      refine wpAnyH_take (i := 14) (v := ?_) rfl (by kernel_rfl) (by kernel_rfl) (by kernel_rfl) (fun _ _ _ h => h) (Or.inl ⟨by kernel_rfl, ?_⟩) hS ?_
      rotate_left
      · intro w' hSw
        obtain ⟨g0, g1, g2, g3, g4, g5, g6, g7, g8, g9, g10, g11, g12, g13, g14, g15, g16, g17, g18, g19, g20, g21, g22, g23, _⟩ := hSw
        first | (go_simp; done) | (go_simp; with_reducible rfl)
      simp only [List.getElem_toArray, List.getElem_cons_zero, List.getElem_cons_succ, Act.put, List.setIfInBounds_toArray, List.set_cons_zero, List.set_cons_succ]
      refine wpAnyH_take (i := 15) (v := ?_) rfl (by kernel_rfl) (by kernel_rfl) (by kernel_rfl) (fun _ _ _ h => h) (Or.inl ⟨by kernel_rfl, ?_⟩) hS ?_
      rotate_left
      · intro w' hSw
        obtain ⟨g0, g1, g2, g3, g4, g5, g6, g7, g8, g9, g10, g11, g12, g13, g14, g15, g16, g17, g18, g19, g20, g21, g22, g23, _⟩ := hSw
        first | (go_simp; done) | (go_simp; with_reducible rfl)
      simp only [List.getElem_toArray, List.getElem_cons_zero, List.getElem_cons_succ, Act.put, List.setIfInBounds_toArray, List.set_cons_zero, List.set_cons_succ]
      refine wpAnyH_take (i := 16) (v := ?_) rfl (by kernel_rfl) (by kernel_rfl) (by kernel_rfl) (fun _ _ _ h => h) (Or.inl ⟨by kernel_rfl, ?_⟩) hS ?_
      rotate_left
      · intro w' hSw
        obtain ⟨g0, g1, g2, g3, g4, g5, g6, g7, g8, g9, g10, g11, g12, g13, g14, g15, g16, g17, g18, g19, g20, g21, g22, g23, _⟩ := hSw
        first | (go_simp; done) | (go_simp; with_reducible rfl)
      simp only [List.getElem_toArray, List.getElem_cons_zero, List.getElem_cons_succ, Act.put, List.setIfInBounds_toArray, List.set_cons_zero, List.set_cons_succ]
      refine wpAnyH_take (i := 17) (v := ?_) rfl (by kernel_rfl) (by kernel_rfl) (by kernel_rfl) (fun _ _ _ h => h) (Or.inl ⟨by kernel_rfl, ?_⟩) hS ?_
      rotate_left
      · intro w' hSw
        obtain ⟨g0, g1, g2, g3, g4, g5, g6, g7, g8, g9, g10, g11, g12, g13, g14, g15, g16, g17, g18, g19, g20, g21, g22, g23, _⟩ := hSw
        first | (go_simp; done) | (go_simp; with_reducible rfl)
      simp only [List.getElem_toArray, List.getElem_cons_zero, List.getElem_cons_succ, Act.put, List.setIfInBounds_toArray, List.set_cons_zero, List.set_cons_succ]
      refine wpAnyH_take (i := 19) (v := ?_) rfl (by kernel_rfl) (by kernel_rfl) (by kernel_rfl) (fun _ _ _ h => h) (Or.inl ⟨by kernel_rfl, ?_⟩) hS ?_
      rotate_left
      · intro w' hSw
        obtain ⟨g0, g1, g2, g3, g4, g5, g6, g7, g8, g9, g10, g11, g12, g13, g14, g15, g16, g17, g18, g19, g20, g21, g22, g23, _⟩ := hSw
        first | (go_simp; done) | (go_simp; with_reducible rfl)
      simp only [List.getElem_toArray, List.getElem_cons_zero, List.getElem_cons_succ, Act.put, List.setIfInBounds_toArray, List.set_cons_zero, List.set_cons_succ]
      refine wpAnyH_ready (rs := [18]) (by kernel_rfl) (List.cons_ne_nil _ _) ?_
      refine AllReadyH.cons rfl (fun K hK => ?_) AllReadyH.nil
      go_simp
      go_at_call 14
      refine (win_impl _ _ _ _ _ _ _ _ _ ((H9.out.2.2.2.2.keep (hS.2.2.2.2.2.2.2.2.2.2.2.2.2.2.2.2.2.2.2.2.2.2.2.2)).2) (by omega)).mono ?_
      rintro e w10 ⟨rfl, hg⟩
      rw [HV.out]
      refine hK.out _ _ (⟨hg.cell (hS.1) (by simp), hg.cell (hS.2.1) (by simp), hg.cell (hS.2.2.1) (by simp), hg.cell (hS.2.2.2.1) (by simp), hg.cell (hS.2.2.2.2.1) (by simp), hg.cell (hS.2.2.2.2.2.1) (by simp), hg.cell (hS.2.2.2.2.2.2.1) (by simp), hg.cell (hS.2.2.2.2.2.2.2.1) (by simp), hg.cell (hS.2.2.2.2.2.2.2.2.1) (by simp), hg.cell (hS.2.2.2.2.2.2.2.2.2.1) (by simp), hg.cell (hS.2.2.2.2.2.2.2.2.2.2.1) (by simp), hg.cell (hS.2.2.2.2.2.2.2.2.2.2.2.1) (by simp), hg.cell (hS.2.2.2.2.2.2.2.2.2.2.2.2.1) (by simp), hg.cell (hS.2.2.2.2.2.2.2.2.2.2.2.2.2.1) (by simp), hg.cell (hS.2.2.2.2.2.2.2.2.2.2.2.2.2.2.1) (by simp), hg.cell (hS.2.2.2.2.2.2.2.2.2.2.2.2.2.2.2.1) (by simp), hg.cell (hS.2.2.2.2.2.2.2.2.2.2.2.2.2.2.2.2.1) (by simp), hg.cell (hS.2.2.2.2.2.2.2.2.2.2.2.2.2.2.2.2.2.1) (by simp), hg.cell (hS.2.2.2.2.2.2.2.2.2.2.2.2.2.2.2.2.2.2.1) (by simp), hg.cell (hS.2.2.2.2.2.2.2.2.2.2.2.2.2.2.2.2.2.2.2.1) (by simp), hg.cell (hS.2.2.2.2.2.2.2.2.2.2.2.2.2.2.2.2.2.2.2.2.1) (by simp), hg.cell (hS.2.2.2.2.2.2.2.2.2.2.2.2.2.2.2.2.2.2.2.2.2.1) (by simp), hg.cell (hS.2.2.2.2.2.2.2.2.2.2.2.2.2.2.2.2.2.2.2.2.2.2.1) (by simp), hg.cell (hS.2.2.2.2.2.2.2.2.2.2.2.2.2.2.2.2.2.2.2.2.2.2.2.1) (by simp), grownBy_trans (hS.2.2.2.2.2.2.2.2.2.2.2.2.2.2.2.2.2.2.2.2.2.2.2.2) hg⟩) (fun hS => ?_)
      clear hK
      try simp only [List.getElem_toArray, List.getElem_cons_zero, List.getElem_cons_succ, Act.put, List.setIfInBounds_toArray, List.set_cons_zero, List.set_cons_succ]
      refine wpAnyH_ready (rs := [20]) (by kernel_rfl) (List.cons_ne_nil _ _) ?_
      refine AllReadyH.cons rfl (fun K hK => ?_) AllReadyH.nil
      go_simp
      go_at_call 15
      refine (win_spec _ _ _ _ _ _ _ _ _ ((H9.out.2.2.2.2.keep (hS.2.2.2.2.2.2.2.2.2.2.2.2.2.2.2.2.2.2.2.2.2.2.2.2)).2) (by omega)).mono ?_
      rintro e w10 ⟨rfl, hg⟩
      rw [HV.out]
      refine hK.out _ _ (⟨hg.cell (hS.1) (by simp), hg.cell (hS.2.1) (by simp), hg.cell (hS.2.2.1) (by simp), hg.cell (hS.2.2.2.1) (by simp), hg.cell (hS.2.2.2.2.1) (by simp), hg.cell (hS.2.2.2.2.2.1) (by simp), hg.cell (hS.2.2.2.2.2.2.1) (by simp), hg.cell (hS.2.2.2.2.2.2.2.1) (by simp), hg.cell (hS.2.2.2.2.2.2.2.2.1) (by simp), hg.cell (hS.2.2.2.2.2.2.2.2.2.1) (by simp), hg.cell (hS.2.2.2.2.2.2.2.2.2.2.1) (by simp), hg.cell (hS.2.2.2.2.2.2.2.2.2.2.2.1) (by simp), hg.cell (hS.2.2.2.2.2.2.2.2.2.2.2.2.1) (by simp), hg.cell (hS.2.2.2.2.2.2.2.2.2.2.2.2.2.1) (by simp), hg.cell (hS.2.2.2.2.2.2.2.2.2.2.2.2.2.2.1) (by simp), hg.cell (hS.2.2.2.2.2.2.2.2.2.2.2.2.2.2.2.1) (by simp), hg.cell (hS.2.2.2.2.2.2.2.2.2.2.2.2.2.2.2.2.1) (by simp), hg.cell (hS.2.2.2.2.2.2.2.2.2.2.2.2.2.2.2.2.2.1) (by simp), hg.cell (hS.2.2.2.2.2.2.2.2.2.2.2.2.2.2.2.2.2.2.1) (by simp), hg.cell (hS.2.2.2.2.2.2.2.2.2.2.2.2.2.2.2.2.2.2.2.1) (by simp), hg.cell (hS.2.2.2.2.2.2.2.2.2.2.2.2.2.2.2.2.2.2.2.2.1) (by simp), hg.cell (hS.2.2.2.2.2.2.2.2.2.2.2.2.2.2.2.2.2.2.2.2.2.1) (by simp), hg.cell (hS.2.2.2.2.2.2.2.2.2.2.2.2.2.2.2.2.2.2.2.2.2.2.1) (by simp), hg.cell (hS.2.2.2.2.2.2.2.2.2.2.2.2.2.2.2.2.2.2.2.2.2.2.2.1) (by simp), grownBy_trans (hS.2.2.2.2.2.2.2.2.2.2.2.2.2.2.2.2.2.2.2.2.2.2.2.2) hg⟩) (fun hS => ?_)
      clear hK
      try simp only [List.getElem_toArray, List.getElem_cons_zero, List.getElem_cons_succ, Act.put, List.setIfInBounds_toArray, List.set_cons_zero, List.set_cons_succ]
      refine wpAnyH_take (i := 21) (v := ?_) rfl (by kernel_rfl) (by kernel_rfl) (by kernel_rfl) (fun _ _ _ h => h) (Or.inl ⟨by kernel_rfl, ?_⟩) hS ?_
      rotate_left
      · intro w' hSw
        obtain ⟨g0, g1, g2, g3, g4, g5, g6, g7, g8, g9, g10, g11, g12, g13, g14, g15, g16, g17, g18, g19, g20, g21, g22, g23, _⟩ := hSw
        first | (go_simp; done) | (go_simp; with_reducible rfl)
      simp only [List.getElem_toArray, List.getElem_cons_zero, List.getElem_cons_succ, Act.put, List.setIfInBounds_toArray, List.set_cons_zero, List.set_cons_succ]
      refine wpAnyH_take (i := 22) (v := ?_) rfl (by kernel_rfl) (by kernel_rfl) (by kernel_rfl) (fun _ _ _ h => h) (Or.inl ⟨by kernel_rfl, ?_⟩) hS ?_
      rotate_left
      · intro w' hSw
        obtain ⟨g0, g1, g2, g3, g4, g5, g6, g7, g8, g9, g10, g11, g12, g13, g14, g15, g16, g17, g18, g19, g20, g21, g22, g23, _⟩ := hSw
        first | (go_simp; done) | (go_simp; with_reducible rfl)
      simp only [List.getElem_toArray, List.getElem_cons_zero, List.getElem_cons_succ, Act.put, List.setIfInBounds_toArray, List.set_cons_zero, List.set_cons_succ]
      refine wpAnyH_take (i := 23) (v := ?_) rfl (by kernel_rfl) (by kernel_rfl) (by kernel_rfl) (fun _ _ _ h => h) (Or.inl ⟨by kernel_rfl, ?_⟩) hS ?_
      rotate_left
      · intro w' hSw
        obtain ⟨g0, g1, g2, g3, g4, g5, g6, g7, g8, g9, g10, g11, g12, g13, g14, g15, g16, g17, g18, g19, g20, g21, g22, g23, _⟩ := hSw
        first | (go_simp; done) | (go_simp; with_reducible rfl)
      simp only [List.getElem_toArray, List.getElem_cons_zero, List.getElem_cons_succ, Act.put, List.setIfInBounds_toArray, List.set_cons_zero, List.set_cons_succ]
      refine wpAnyH_take (i := 24) (v := ?_) rfl (by kernel_rfl) (by kernel_rfl) (by kernel_rfl) (fun _ _ _ h => h) (Or.inl ⟨by kernel_rfl, ?_⟩) hS ?_
      rotate_left
      · intro w' hSw
        obtain ⟨g0, g1, g2, g3, g4, g5, g6, g7, g8, g9, g10, g11, g12, g13, g14, g15, g16, g17, g18, g19, g20, g21, g22, g23, _⟩ := hSw
        first | (go_simp; done) | (go_simp; with_reducible rfl)
      simp only [List.getElem_toArray, List.getElem_cons_zero, List.getElem_cons_succ, Act.put, List.setIfInBounds_toArray, List.set_cons_zero, List.set_cons_succ]
      refine wpAnyH_take (i := 25) (v := ?_) rfl (by kernel_rfl) (by kernel_rfl) (by kernel_rfl) (fun _ _ _ h => h) (Or.inl ⟨by kernel_rfl, ?_⟩) hS ?_
      rotate_left
      · intro w' hSw
        obtain ⟨g0, g1, g2, g3, g4, g5, g6, g7, g8, g9, g10, g11, g12, g13, g14, g15, g16, g17, g18, g19, g20, g21, g22, g23, _⟩ := hSw
        first | (go_simp; done) | (go_simp; with_reducible rfl)
      simp only [List.getElem_toArray, List.getElem_cons_zero, List.getElem_cons_succ, Act.put, List.setIfInBounds_toArray, List.set_cons_zero, List.set_cons_succ]
      refine wpAnyH_take (i := 26) (v := ?_) rfl (by kernel_rfl) (by kernel_rfl) (by kernel_rfl) (fun _ _ _ h => h) (Or.inl ⟨by kernel_rfl, ?_⟩) hS ?_
      rotate_left
      · intro w' hSw
        obtain ⟨g0, g1, g2, g3, g4, g5, g6, g7, g8, g9, g10, g11, g12, g13, g14, g15, g16, g17, g18, g19, g20, g21, g22, g23, _⟩ := hSw
        first | (go_simp; done) | (go_simp; with_reducible rfl)
      simp only [List.getElem_toArray, List.getElem_cons_zero, List.getElem_cons_succ, Act.put, List.setIfInBounds_toArray, List.set_cons_zero, List.set_cons_succ]
      refine wpAnyH_done (by kernel_rfl) ?_ _
      have hgw := hS.2.2.2.2.2.2.2.2.2.2.2.2.2.2.2.2.2.2.2.2.2.2.2.2
      have H9 := Lib.hid (keep5 H9.out hgw)
      clear hgw
      clear b0 b1 b2 b3 b4 b5
      clear d0 d1 d2 d3 d4 d5
      clear y0 y1 y2 y3 y4 y5
      clear v0 v1 v2 v3 v4 v5
      have b0 := (H9.out.2.1.1).c 0 rfl
      have b1 := (H9.out.2.1.1).c 1 rfl
      have b2 := (H9.out.2.1.1).c 2 rfl
      have b3 := (H9.out.2.1.1).c 3 rfl
      have b4 := (H9.out.2.1.1).c 4 rfl
      have b5 := (H9.out.2.1.1).c 5 rfl
      go_wp2_with fail
      refine (bb_ok_impl _ _ _ _ _ _ _ _ _ H9.out.2.1.2 (by omega)).mono ?_
      rintro e w12 ⟨rfl, hg⟩
      rw [HOK.out]
      have HA := Lib.hid (keep5 H9.out hg)
      clear hg H9
      clear b0 b1 b2 b3 b4 b5
      have b0 := (HA.out.2.1.1).c 0 rfl
      have b1 := (HA.out.2.1.1).c 1 rfl
      have b2 := (HA.out.2.1.1).c 2 rfl
      have b3 := (HA.out.2.1.1).c 3 rfl
      have b4 := (HA.out.2.1.1).c 4 rfl
      have b5 := (HA.out.2.1.1).c 5 rfl
      have d0 := (HA.out.1.b.1).c 0 rfl
      have d1 := (HA.out.1.b.1).c 1 rfl
      have d2 := (HA.out.1.b.1).c 2 rfl
      have d3 := (HA.out.1.b.1).c 3 rfl
      have d4 := (HA.out.1.b.1).c 4 rfl
      have d5 := (HA.out.1.b.1).c 5 rfl
      go_wp2_with fail
      refine (win_impl _ _ _ _ _ _ _ _ _ HA.out.2.1.2 (by omega)).mono ?_
      rintro e w13 ⟨rfl, hg⟩
      rw [HW4.out]
      have HB := Lib.hid (grownBy_trans HA.out.1.g hg)
      clear hg HA
      go_wp2_with fail
      go_ret
      exact ⟨by first | (simp; done) | (simp; omega), below_new HB.out⟩

set_option maxRecDepth 100000 in
theorem lifted (os : Os) (started : os.Started) (H : Type) (enc : TypeId × Value → H) :
    ReturnsInHanded {} Try.checked os 3 .any (Rows.fnBbrSpec.pre6 enc Try.prog Try.f3 Rows.fnBbrRow.domain false) (Rows.fnBbrSpec.post enc Try.prog Try.f3 false true false false) := by
  refine returnsInHanded_of_change (C := Try.checked) own started (by kernel_rfl) Try.func3
    (ChangeSpec.witness6 (enc := enc) (C := Try.checked) false ⟨#[], #[.slice none 0 0], []⟩ 8 (by kernel_rfl) (by kernel_rfl) (by kernel_rfl) (by kernel_rfl)) ?_
  intro W base args ds gs before hval0 hW hcnd _
  have hval : ∀ (j : Nat) t v, Try.f3.params[j]? = some t → args[j]? = some v → Value.okWide Try.prog W .any base t v := hval0
  have hW' := hW
  obtain ⟨p, q, hA0, hV, rfl, hfz, hnd⟩ := hW
  have hA : DataW.TrodAll enc Try.prog W 0 (fun _ => true) true Try.f3.params.toList args.toList ds p := hA0
  rw [Try.params3] at hA hval
  obtain ⟨v0, vs0, d0, ds0, p0, q0, hargs, rfl, rfl, h0, r0⟩ := trodAll_cons hA
  obtain ⟨rfl, rfl, rfl⟩ := trodAll_nil r0
  obtain rfl : args = #[v0] := by cases args; simp_all
  obtain ⟨rfl, rfl⟩ := trodVars_none hV
  have k0 := h0
  have lt0 : ∀ x ∈ p0, x.block < W.heap.size := by obtain ⟨m, hm⟩ := k0; exact DataW.trod_lt m _ _ _ hm
  obtain ⟨a0, len0, cap0, rfl⟩ := okWide_slice Try.underlying22 (hval 0 22 v0 rfl rfl)
  obtain ⟨z0, w0⟩ : ∃ zs, IsRow .u8 W a0 len0 cap0 zs := by
    obtain ⟨fuel, hf⟩ := h0
    rcases open_ints Try.underlying22 Try.underlying5 (by kernel_rfl) hf with ⟨hcs, _⟩ | ⟨x, l, c, zs, hcs, _, hl, hm, hz, _, hcell, hwz⟩
    · simp [Value.cells] at hcs
      obtain ⟨rfl, rfl, rfl⟩ := hcs
      exact ⟨[], .inl ⟨rfl, rfl, rfl, rfl⟩⟩
    · simp [Value.cells] at hcs
      obtain ⟨rfl, rfl, rfl⟩ := hcs
      exact ⟨zs, .inr ⟨_, rfl, hl, hm, by simpa using hz, hcell, hwz⟩⟩
  clear hA0 hval0
  refine (walk a0 len0 cap0 z0 W w0).mono fun e W' ⟨he, bel⟩ => ?_
  subst he
  exact ⟨_, rfl, _, _, _, [], _, [], hW', trodAll_mk1 (shut_bool Try.underlying4 _), (trodAll_cons_mk (Below.trod laidOut (by kernel_rfl) (of_decide_eq_true (by kernel_rfl)) k0 bel lt0) trodAll_mk0), rfl, bel.frame _, fun h => by cases h⟩

theorem over : Rows.fnBbrRow.holds Try.pinned (OpenSpec.ofChange Rows.fnBbrSpec) :=
  OpenClaim.holds_of_wide 3 Try.f3 rfl rfl rfl rfl rfl rfl rfl ⟨rfl, rfl, rfl, rfl, rfl⟩ rfl rfl rfl rfl rfl (by kernel_rfl) Try.func3 (by kernel_rfl)
    (of_decide_eq_true (by kernel_rfl)) (by unfold Func.isWrapper; first | (rw [if_pos (by decide +kernel)]; kernel_rfl) | (rw [if_neg (by decide +kernel)]; exact ⟨rfl, rfl⟩))
    (fun os started H enc _ => lifted os started H enc)

theorem proved : Rows.FnBbrSaid := over
end Go.Proofs.Yteomllgkcolmhaa.fnBbr
