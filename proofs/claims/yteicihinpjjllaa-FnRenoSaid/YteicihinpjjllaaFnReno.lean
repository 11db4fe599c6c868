/- For every code the law FnReno answers true and leaves its argument as it was; no condition. -/
import Derived.Test.YteicihinpjjllaaRows
import Derived.Test.YteicihinpjjllaaDraw
import Derived.Test.YteicihinpjjllaaRnQ
import Derived.WalkKit
import Derived.ProofKit
import Derived.OpenShut
import Derived.ShutString
import Derived.ChangeOld
import Derived.Below
import Derived.Lib.SmallJoins
namespace Go.Proofs.Yteicihinpjjllaa.fnReno
open Go.ChangeShapes Go.WideShapes Go.ChangeAt Go.RowKit Go.Joins
open Go.ChangeMaps (open_string shut_string)
set_option linter.unusedVariables false

theorem own : ownKnob Try.prog.godebug = none := by kernel_rfl
theorem laidOut : laidOutB Try.prog = true := by kernel_rfl


def IsRow (k : IntKind) (w : World) (a : Option Addr) (len cap : Nat) (zs : List Int) : Prop :=
  (a = none ∧ len = 0 ∧ cap = 0 ∧ zs = []) ∨
  ∃ x, a = some x ∧ len ≤ cap ∧ cap ≤ maxLen ∧ zs.length = cap ∧ (∀ i, i < zs.length → w.cell? (x.add i) = some (.int k (zs.getD i 0))) ∧ ∀ n ∈ zs, (Lit.int k n).wf = true

theorem dummy10 : True := trivial

set_option maxRecDepth 100000 in
set_option maxHeartbeats 4000000 in
theorem walk (a0 : Option Addr) (len0 cap0 : Nat) (z0 : List Int) (w : World) (w0 : IsRow .u8 w a0 len0 cap0 z0) :
    Calls Try.prog 3 #[.slice a0 len0 cap0] w fun e w' => e = .returned (.bool true) ∧ Below w.heap.size w w' := by
  have hc := code_of w0
  clear w0
  have HC := Lib.hid hc
  clear hc
  by_cases hbig : 1048576 < len0
  · go_enter Try.func3, Try.ntmps3
    go_wp2_with (go_at_call 12; refine (big_any _ _ _ _).mono ?_; rintro e w' ⟨rfl, rfl⟩)
    go_ret
    exact ⟨rfl, Below.refl _ _⟩
  · go_enter Try.func3, Try.ntmps3
    go_wp2_with (go_at_call 12; refine (big_any _ _ _ _).mono ?_; rintro e w' ⟨rfl, rfl⟩)
    refine (draw_step _ _ _ _ HC.out).mono ?_
    rintro e w1 ⟨m, y, l, p, d, o, g, k, n1, a1, f, x, rfl, hg⟩
    have HG1 := Lib.hid hg
    have HC1 := Lib.hid (HC.out.kept hg)
    clear hg
    obtain ⟨R0, R1, R2, R3, R4, R5, R6, b, hv, ht, _⟩ := st_ex m y l p d o g k n1 a1 f x
    have hi := fun W => rn_stepI m y l p d o g k n1 a1 f x W
    have hs := fun W => rn_stepS m y l p d o g k n1 a1 f x W
    simp only [hv] at hi hs
    have HI := Lib.hid hi
    have HS := Lib.hid hs
    have HT := Lib.hid ht
    clear hi hs ht hv
    go_wp2_with fail
    refine (HI.out _).mono ?_
    rintro e w2 ⟨rfl, hg⟩
    have he := (Bx.new (w1.alloc (.cells #[.int .i64 m, .int .i64 y, .int .i64 l, .int .i64 p, .int .i64 d, .int .i64 o, .int .i64 g] 25)) 27 #[.int .i64 k, .int .i64 n1, .int .i64 a1, .int .i64 f, .int .i64 x]).keep hg
    simp only [World.size_alloc] at he
    have HC2 := Lib.hid (HC1.out.kept (grownBy_trans (gA (gA (World.grownBy.refl _ _) _) _) hg))
    have H2 := Lib.hid (And.intro (grownBy_trans (gA (gA HG1.out _) _) hg) (And.intro (((Bx.new w1 25 #[.int .i64 m, .int .i64 y, .int .i64 l, .int .i64 p, .int .i64 d, .int .i64 o, .int .i64 g]).alloc (.cells #[.int .i64 k, .int .i64 n1, .int .i64 a1, .int .i64 f, .int .i64 x] 27)).keep hg) he))
    clear hg he
    have ca0 : w2.cell? ⟨w1.heap.size, 0, none⟩ = some (.int .i64 m) := H2.out.2.1.c 0 rfl
    have ca1 : w2.cell? ⟨w1.heap.size, 1, none⟩ = some (.int .i64 y) := H2.out.2.1.c 1 rfl
    have ca2 : w2.cell? ⟨w1.heap.size, 2, none⟩ = some (.int .i64 l) := H2.out.2.1.c 2 rfl
    have ca3 : w2.cell? ⟨w1.heap.size, 3, none⟩ = some (.int .i64 p) := H2.out.2.1.c 3 rfl
    have ca4 : w2.cell? ⟨w1.heap.size, 4, none⟩ = some (.int .i64 d) := H2.out.2.1.c 4 rfl
    have ca5 : w2.cell? ⟨w1.heap.size, 5, none⟩ = some (.int .i64 o) := H2.out.2.1.c 5 rfl
    have ca6 : w2.cell? ⟨w1.heap.size, 6, none⟩ = some (.int .i64 g) := H2.out.2.1.c 6 rfl
    have ce0 : w2.cell? ⟨(w1.heap.size + 1), 0, none⟩ = some (.int .i64 k) := H2.out.2.2.c 0 rfl
    have ce1 : w2.cell? ⟨(w1.heap.size + 1), 1, none⟩ = some (.int .i64 n1) := H2.out.2.2.c 1 rfl
    have ce2 : w2.cell? ⟨(w1.heap.size + 1), 2, none⟩ = some (.int .i64 a1) := H2.out.2.2.c 2 rfl
    have ce3 : w2.cell? ⟨(w1.heap.size + 1), 3, none⟩ = some (.int .i64 f) := H2.out.2.2.c 3 rfl
    have ce4 : w2.cell? ⟨(w1.heap.size + 1), 4, none⟩ = some (.int .i64 x) := H2.out.2.2.c 4 rfl
    have lt2 := H2.out.2.2.lt
    have lt1 : w1.heap.size < w2.heap.size := by omega
    go_wp2_with fail
    refine (HS.out _).mono ?_
    rintro e w3 ⟨rfl, hg⟩
    have HC3 := Lib.hid (HC2.out.kept (grownBy_trans (gA (World.grownBy.refl _ _) _) hg))
    have H3 := Lib.hid (And.intro (grownBy_trans (gA H2.out.1 _) hg) (And.intro ((H2.out.2.1.alloc _).keep hg) (And.intro ((H2.out.2.2.alloc _).keep hg) ((Bx.new w2 25 #[.int .i64 R0, .int .i64 R1, .int .i64 R2, .int .i64 R3, .int .i64 R4, .int .i64 R5, .int .i64 R6]).keep hg))))
    clear hg ca0 ca1 ca2 ca3 ca4 ca5 ca6 ce0 ce1 ce2 ce3 ce4
    have ca0 : w3.cell? ⟨w1.heap.size, 0, none⟩ = some (.int .i64 m) := H3.out.2.1.c 0 rfl
    have ca1 : w3.cell? ⟨w1.heap.size, 1, none⟩ = some (.int .i64 y) := H3.out.2.1.c 1 rfl
    have ca2 : w3.cell? ⟨w1.heap.size, 2, none⟩ = some (.int .i64 l) := H3.out.2.1.c 2 rfl
    have ca3 : w3.cell? ⟨w1.heap.size, 3, none⟩ = some (.int .i64 p) := H3.out.2.1.c 3 rfl
    have ca4 : w3.cell? ⟨w1.heap.size, 4, none⟩ = some (.int .i64 d) := H3.out.2.1.c 4 rfl
    have ca5 : w3.cell? ⟨w1.heap.size, 5, none⟩ = some (.int .i64 o) := H3.out.2.1.c 5 rfl
    have ca6 : w3.cell? ⟨w1.heap.size, 6, none⟩ = some (.int .i64 g) := H3.out.2.1.c 6 rfl
    have ce0 : w3.cell? ⟨(w1.heap.size + 1), 0, none⟩ = some (.int .i64 k) := H3.out.2.2.1.c 0 rfl
    have ce1 : w3.cell? ⟨(w1.heap.size + 1), 1, none⟩ = some (.int .i64 n1) := H3.out.2.2.1.c 1 rfl
    have ce2 : w3.cell? ⟨(w1.heap.size + 1), 2, none⟩ = some (.int .i64 a1) := H3.out.2.2.1.c 2 rfl
    have ce3 : w3.cell? ⟨(w1.heap.size + 1), 3, none⟩ = some (.int .i64 f) := H3.out.2.2.1.c 3 rfl
    have ce4 : w3.cell? ⟨(w1.heap.size + 1), 4, none⟩ = some (.int .i64 x) := H3.out.2.2.1.c 4 rfl
    have cn0 : w3.cell? ⟨w2.heap.size, 0, none⟩ = some (.int .i64 R0) := H3.out.2.2.2.c 0 rfl
    have cn1 : w3.cell? ⟨w2.heap.size, 1, none⟩ = some (.int .i64 R1) := H3.out.2.2.2.c 1 rfl
    have cn2 : w3.cell? ⟨w2.heap.size, 2, none⟩ = some (.int .i64 R2) := H3.out.2.2.2.c 2 rfl
    have cn3 : w3.cell? ⟨w2.heap.size, 3, none⟩ = some (.int .i64 R3) := H3.out.2.2.2.c 3 rfl
    have cn4 : w3.cell? ⟨w2.heap.size, 4, none⟩ = some (.int .i64 R4) := H3.out.2.2.2.c 4 rfl
    have cn5 : w3.cell? ⟨w2.heap.size, 5, none⟩ = some (.int .i64 R5) := H3.out.2.2.2.c 5 rfl
    have cn6 : w3.cell? ⟨w2.heap.size, 6, none⟩ = some (.int .i64 R6) := H3.out.2.2.2.c 6 rfl
    have lt3 := H3.out.2.2.2.lt
    have lt4 : w1.heap.size < w3.heap.size := by omega
    have lt5 : w1.heap.size + 1 < w3.heap.size := by omega
    clear ca0 ca1 ca2 ca3 ca4 ca5 ca6 ce0 ce1 ce2 ce3 ce4 cn0 cn1 cn2 cn3 cn4 cn5 cn6
    go_wp2_with fail
    refine (draw_ok _ _ _ _ (HC3.out.kept (World.grownBy_alloc _ _ none))).mono ?_
    rintro e w4 ⟨X0, X1, X2, X3, X4, X5, X6, rfl, hg⟩
    have hg5 : w3.grownBy (w4.alloc (.cells #[.int .i64 X0, .int .i64 X1, .int .i64 X2, .int .i64 X3, .int .i64 X4, .int .i64 X5, .int .i64 X6] 25)) none := grownBy_trans (gA (World.grownBy.refl _ _) _) (grownBy_trans hg (World.grownBy_alloc _ _ none))
    have hx := Bx.new w4 25 #[.int .i64 X0, .int .i64 X1, .int .i64 X2, .int .i64 X3, .int .i64 X4, .int .i64 X5, .int .i64 X6]
    have ht := (((Bx.new w3 25 #[.int .i64 R0, .int .i64 R1, .int .i64 R2, .int .i64 R3, .int .i64 R4, .int .i64 R5, .int .i64 R6]).keep hg).alloc (.cells #[.int .i64 X0, .int .i64 X1, .int .i64 X2, .int .i64 X3, .int .i64 X4, .int .i64 X5, .int .i64 X6] 25))
    clear hg
    go_wp2_with fail
    generalize hw5 : w4.alloc (.cells #[.int .i64 X0, .int .i64 X1, .int .i64 X2, .int .i64 X3, .int .i64 X4, .int .i64 X5, .int .i64 X6] 25) = w5 at *
    clear hw5
    have H5 := Lib.hid (And.intro (grownBy_trans H3.out.1 hg5) (And.intro (H3.out.2.1.keep hg5) (And.intro (H3.out.2.2.1.keep hg5) (And.intro (H3.out.2.2.2.keep hg5) (And.intro ht hx)))))
    clear hg5 ht hx lt1 lt2 lt3 lt4 lt5
    generalize w1.heap.size = A at *
    generalize w2.heap.size = N at *
    generalize w3.heap.size = T at *
    generalize w4.heap.size = X at *
    have hxi := fun W => rn_okg X0 X1 X2 X3 X4 X5 X6 W
    have hxs := fun W => rn_okSg X0 X1 X2 X3 X4 X5 X6 W
    generalize rnOk ⟨X0, X1, X2, X3, X4, X5, X6⟩ = bx at hxi hxs
    have HXI := Lib.hid hxi
    have HXS := Lib.hid hxs
    clear hxi hxs
    have cn0 : w5.cell? ⟨N, 0, none⟩ = some (.int .i64 R0) := H5.out.2.2.2.1.c 0 rfl
    have cn1 : w5.cell? ⟨N, 1, none⟩ = some (.int .i64 R1) := H5.out.2.2.2.1.c 1 rfl
    have cn2 : w5.cell? ⟨N, 2, none⟩ = some (.int .i64 R2) := H5.out.2.2.2.1.c 2 rfl
    have cn3 : w5.cell? ⟨N, 3, none⟩ = some (.int .i64 R3) := H5.out.2.2.2.1.c 3 rfl
    have cn4 : w5.cell? ⟨N, 4, none⟩ = some (.int .i64 R4) := H5.out.2.2.2.1.c 4 rfl
    have cn5 : w5.cell? ⟨N, 5, none⟩ = some (.int .i64 R5) := H5.out.2.2.2.1.c 5 rfl
    have cn6 : w5.cell? ⟨N, 6, none⟩ = some (.int .i64 R6) := H5.out.2.2.2.1.c 6 rfl
    have ct0 : w5.cell? ⟨T, 0, none⟩ = some (.int .i64 R0) := H5.out.2.2.2.2.1.c 0 rfl
    have ct1 : w5.cell? ⟨T, 1, none⟩ = some (.int .i64 R1) := H5.out.2.2.2.2.1.c 1 rfl
    have ct2 : w5.cell? ⟨T, 2, none⟩ = some (.int .i64 R2) := H5.out.2.2.2.2.1.c 2 rfl
    have ct3 : w5.cell? ⟨T, 3, none⟩ = some (.int .i64 R3) := H5.out.2.2.2.2.1.c 3 rfl
    have ct4 : w5.cell? ⟨T, 4, none⟩ = some (.int .i64 R4) := H5.out.2.2.2.2.1.c 4 rfl
    have ct5 : w5.cell? ⟨T, 5, none⟩ = some (.int .i64 R5) := H5.out.2.2.2.2.1.c 5 rfl
    have ct6 : w5.cell? ⟨T, 6, none⟩ = some (.int .i64 R6) := H5.out.2.2.2.2.1.c 6 rfl
    have cx0 : w5.cell? ⟨X, 0, none⟩ = some (.int .i64 X0) := H5.out.2.2.2.2.2.c 0 rfl
    have cx1 : w5.cell? ⟨X, 1, none⟩ = some (.int .i64 X1) := H5.out.2.2.2.2.2.c 1 rfl
    have cx2 : w5.cell? ⟨X, 2, none⟩ = some (.int .i64 X2) := H5.out.2.2.2.2.2.c 2 rfl
    have cx3 : w5.cell? ⟨X, 3, none⟩ = some (.int .i64 X3) := H5.out.2.2.2.2.2.c 3 rfl
    have cx4 : w5.cell? ⟨X, 4, none⟩ = some (.int .i64 X4) := H5.out.2.2.2.2.2.c 4 rfl
    have cx5 : w5.cell? ⟨X, 5, none⟩ = some (.int .i64 X5) := H5.out.2.2.2.2.2.c 5 rfl
    have cx6 : w5.cell? ⟨X, 6, none⟩ = some (.int .i64 X6) := H5.out.2.2.2.2.2.c 6 rfl
    cases b
    · have hcj : w5.drew.cell? ⟨N, 0, none⟩ = some (.int .i64 R0) ∧ w5.drew.cell? ⟨N, 1, none⟩ = some (.int .i64 R1) ∧ w5.drew.cell? ⟨N, 2, none⟩ = some (.int .i64 R2) ∧ w5.drew.cell? ⟨N, 3, none⟩ = some (.int .i64 R3) ∧ w5.drew.cell? ⟨N, 4, none⟩ = some (.int .i64 R4) ∧ w5.drew.cell? ⟨N, 5, none⟩ = some (.int .i64 R5) ∧ w5.drew.cell? ⟨N, 6, none⟩ = some (.int .i64 R6) ∧ w5.drew.cell? ⟨T, 0, none⟩ = some (.int .i64 R0) ∧ w5.drew.cell? ⟨T, 1, none⟩ = some (.int .i64 R1) ∧ w5.drew.cell? ⟨T, 2, none⟩ = some (.int .i64 R2) ∧ w5.drew.cell? ⟨T, 3, none⟩ = some (.int .i64 R3) ∧ w5.drew.cell? ⟨T, 4, none⟩ = some (.int .i64 R4) ∧ w5.drew.cell? ⟨T, 5, none⟩ = some (.int .i64 R5) ∧ w5.drew.cell? ⟨T, 6, none⟩ = some (.int .i64 R6) ∧ w5.drew.cell? ⟨X, 0, none⟩ = some (.int .i64 X0) ∧ w5.drew.cell? ⟨X, 1, none⟩ = some (.int .i64 X1) ∧ w5.drew.cell? ⟨X, 2, none⟩ = some (.int .i64 X2) ∧ w5.drew.cell? ⟨X, 3, none⟩ = some (.int .i64 X3) ∧ w5.drew.cell? ⟨X, 4, none⟩ = some (.int .i64 X4) ∧ w5.drew.cell? ⟨X, 5, none⟩ = some (.int .i64 X5) ∧ w5.drew.cell? ⟨X, 6, none⟩ = some (.int .i64 X6) ∧ w5.grownBy w5.drew none := ⟨cn0, cn1, cn2, cn3, cn4, cn5, cn6, ct0, ct1, ct2, ct3, ct4, ct5, ct6, cx0, cx1, cx2, cx3, cx4, cx5, cx6, grownBy_drew⟩
      go_region_held3 (fun w' => w'.cell? ⟨N, 0, none⟩ = some (.int .i64 R0) ∧ w'.cell? ⟨N, 1, none⟩ = some (.int .i64 R1) ∧ w'.cell? ⟨N, 2, none⟩ = some (.int .i64 R2) ∧ w'.cell? ⟨N, 3, none⟩ = some (.int .i64 R3) ∧ w'.cell? ⟨N, 4, none⟩ = some (.int .i64 R4) ∧ w'.cell? ⟨N, 5, none⟩ = some (.int .i64 R5) ∧ w'.cell? ⟨N, 6, none⟩ = some (.int .i64 R6) ∧ w'.cell? ⟨T, 0, none⟩ = some (.int .i64 R0) ∧ w'.cell? ⟨T, 1, none⟩ = some (.int .i64 R1) ∧ w'.cell? ⟨T, 2, none⟩ = some (.int .i64 R2) ∧ w'.cell? ⟨T, 3, none⟩ = some (.int .i64 R3) ∧ w'.cell? ⟨T, 4, none⟩ = some (.int .i64 R4) ∧ w'.cell? ⟨T, 5, none⟩ = some (.int .i64 R5) ∧ w'.cell? ⟨T, 6, none⟩ = some (.int .i64 R6) ∧ w'.cell? ⟨X, 0, none⟩ = some (.int .i64 X0) ∧ w'.cell? ⟨X, 1, none⟩ = some (.int .i64 X1) ∧ w'.cell? ⟨X, 2, none⟩ = some (.int .i64 X2) ∧ w'.cell? ⟨X, 3, none⟩ = some (.int .i64 X3) ∧ w'.cell? ⟨X, 4, none⟩ = some (.int .i64 X4) ∧ w'.cell? ⟨X, 5, none⟩ = some (.int .i64 X5) ∧ w'.cell? ⟨X, 6, none⟩ = some (.int .i64 X6) ∧ w5.grownBy w' none) ((first | assumption | exact s21 (by assumption) grownBy_drew | exact s21 (by assumption) (World.grownBy_alloc _ _ none)))
        (first
          | (go_at_call 17; refine (HXI.out _).mono ?_; rintro e w6 ⟨rfl, hg⟩; have qb := s21 (by assumption) hg; obtain ⟨qb0, qb1, qb2, qb3, qb4, qb5, qb6, qb7, qb8, qb9, qb10, qb11, qb12, qb13, qb14, qb15, qb16, qb17, qb18, qb19, qb20, qbg⟩ := qb; have qb := And.intro qb0 (And.intro qb1 (And.intro qb2 (And.intro qb3 (And.intro qb4 (And.intro qb5 (And.intro qb6 (And.intro qb7 (And.intro qb8 (And.intro qb9 (And.intro qb10 (And.intro qb11 (And.intro qb12 (And.intro qb13 (And.intro qb14 (And.intro qb15 (And.intro qb16 (And.intro qb17 (And.intro qb18 (And.intro qb19 (And.intro qb20 (qbg))))))))))))))))))))))
          | (go_at_call 18; refine (HXS.out _).mono ?_; rintro e w7 ⟨rfl, hg⟩; have qb := s21 (by assumption) hg; obtain ⟨qb0, qb1, qb2, qb3, qb4, qb5, qb6, qb7, qb8, qb9, qb10, qb11, qb12, qb13, qb14, qb15, qb16, qb17, qb18, qb19, qb20, qbg⟩ := qb; have qb := And.intro qb0 (And.intro qb1 (And.intro qb2 (And.intro qb3 (And.intro qb4 (And.intro qb5 (And.intro qb6 (And.intro qb7 (And.intro qb8 (And.intro qb9 (And.intro qb10 (And.intro qb11 (And.intro qb12 (And.intro qb13 (And.intro qb14 (And.intro qb15 (And.intro qb16 (And.intro qb17 (And.intro qb18 (And.intro qb19 (And.intro qb20 (qbg))))))))))))))))))))))
          | (fail))
      go_wp2_with fail
      have hcj : w7.drew.cell? ⟨N, 0, none⟩ = some (.int .i64 R0) ∧ w7.drew.cell? ⟨N, 1, none⟩ = some (.int .i64 R1) ∧ w7.drew.cell? ⟨N, 2, none⟩ = some (.int .i64 R2) ∧ w7.drew.cell? ⟨N, 3, none⟩ = some (.int .i64 R3) ∧ w7.drew.cell? ⟨N, 4, none⟩ = some (.int .i64 R4) ∧ w7.drew.cell? ⟨N, 5, none⟩ = some (.int .i64 R5) ∧ w7.drew.cell? ⟨N, 6, none⟩ = some (.int .i64 R6) ∧ w7.drew.cell? ⟨T, 0, none⟩ = some (.int .i64 R0) ∧ w7.drew.cell? ⟨T, 1, none⟩ = some (.int .i64 R1) ∧ w7.drew.cell? ⟨T, 2, none⟩ = some (.int .i64 R2) ∧ w7.drew.cell? ⟨T, 3, none⟩ = some (.int .i64 R3) ∧ w7.drew.cell? ⟨T, 4, none⟩ = some (.int .i64 R4) ∧ w7.drew.cell? ⟨T, 5, none⟩ = some (.int .i64 R5) ∧ w7.drew.cell? ⟨T, 6, none⟩ = some (.int .i64 R6) ∧ w7.drew.cell? ⟨X, 0, none⟩ = some (.int .i64 X0) ∧ w7.drew.cell? ⟨X, 1, none⟩ = some (.int .i64 X1) ∧ w7.drew.cell? ⟨X, 2, none⟩ = some (.int .i64 X2) ∧ w7.drew.cell? ⟨X, 3, none⟩ = some (.int .i64 X3) ∧ w7.drew.cell? ⟨X, 4, none⟩ = some (.int .i64 X4) ∧ w7.drew.cell? ⟨X, 5, none⟩ = some (.int .i64 X5) ∧ w7.drew.cell? ⟨X, 6, none⟩ = some (.int .i64 X6) ∧ w5.grownBy w7.drew none := s21 (by assumption) (grownBy_drew (a := w7))
      go_region_held3 (fun w' => w'.cell? ⟨N, 0, none⟩ = some (.int .i64 R0) ∧ w'.cell? ⟨N, 1, none⟩ = some (.int .i64 R1) ∧ w'.cell? ⟨N, 2, none⟩ = some (.int .i64 R2) ∧ w'.cell? ⟨N, 3, none⟩ = some (.int .i64 R3) ∧ w'.cell? ⟨N, 4, none⟩ = some (.int .i64 R4) ∧ w'.cell? ⟨N, 5, none⟩ = some (.int .i64 R5) ∧ w'.cell? ⟨N, 6, none⟩ = some (.int .i64 R6) ∧ w'.cell? ⟨T, 0, none⟩ = some (.int .i64 R0) ∧ w'.cell? ⟨T, 1, none⟩ = some (.int .i64 R1) ∧ w'.cell? ⟨T, 2, none⟩ = some (.int .i64 R2) ∧ w'.cell? ⟨T, 3, none⟩ = some (.int .i64 R3) ∧ w'.cell? ⟨T, 4, none⟩ = some (.int .i64 R4) ∧ w'.cell? ⟨T, 5, none⟩ = some (.int .i64 R5) ∧ w'.cell? ⟨T, 6, none⟩ = some (.int .i64 R6) ∧ w'.cell? ⟨X, 0, none⟩ = some (.int .i64 X0) ∧ w'.cell? ⟨X, 1, none⟩ = some (.int .i64 X1) ∧ w'.cell? ⟨X, 2, none⟩ = some (.int .i64 X2) ∧ w'.cell? ⟨X, 3, none⟩ = some (.int .i64 X3) ∧ w'.cell? ⟨X, 4, none⟩ = some (.int .i64 X4) ∧ w'.cell? ⟨X, 5, none⟩ = some (.int .i64 X5) ∧ w'.cell? ⟨X, 6, none⟩ = some (.int .i64 X6) ∧ w5.grownBy w' none) ((first | assumption | exact s21 (by assumption) grownBy_drew | exact s21 (by assumption) (World.grownBy_alloc _ _ none)))
        (first
          | (go_at_call 17; refine (HXI.out _).mono ?_; rintro e w8 ⟨rfl, hg⟩; have qb := s21 (by assumption) hg; obtain ⟨qb0, qb1, qb2, qb3, qb4, qb5, qb6, qb7, qb8, qb9, qb10, qb11, qb12, qb13, qb14, qb15, qb16, qb17, qb18, qb19, qb20, qbg⟩ := qb; have qb := And.intro qb0 (And.intro qb1 (And.intro qb2 (And.intro qb3 (And.intro qb4 (And.intro qb5 (And.intro qb6 (And.intro qb7 (And.intro qb8 (And.intro qb9 (And.intro qb10 (And.intro qb11 (And.intro qb12 (And.intro qb13 (And.intro qb14 (And.intro qb15 (And.intro qb16 (And.intro qb17 (And.intro qb18 (And.intro qb19 (And.intro qb20 (qbg))))))))))))))))))))))
          | (go_at_call 18; refine (HXS.out _).mono ?_; rintro e w9 ⟨rfl, hg⟩; have qb := s21 (by assumption) hg; obtain ⟨qb0, qb1, qb2, qb3, qb4, qb5, qb6, qb7, qb8, qb9, qb10, qb11, qb12, qb13, qb14, qb15, qb16, qb17, qb18, qb19, qb20, qbg⟩ := qb; have qb := And.intro qb0 (And.intro qb1 (And.intro qb2 (And.intro qb3 (And.intro qb4 (And.intro qb5 (And.intro qb6 (And.intro qb7 (And.intro qb8 (And.intro qb9 (And.intro qb10 (And.intro qb11 (And.intro qb12 (And.intro qb13 (And.intro qb14 (And.intro qb15 (And.intro qb16 (And.intro qb17 (And.intro qb18 (And.intro qb19 (And.intro qb20 (qbg))))))))))))))))))))))
          | (fail))
      go_wp2_with fail
      all_goals
        go_ret
        exact ⟨rfl, below_new (grownBy_trans H5.out.1 (by assumption))⟩
    · have hcj : w5.drew.cell? ⟨N, 0, none⟩ = some (.int .i64 R0) ∧ w5.drew.cell? ⟨N, 1, none⟩ = some (.int .i64 R1) ∧ w5.drew.cell? ⟨N, 2, none⟩ = some (.int .i64 R2) ∧ w5.drew.cell? ⟨N, 3, none⟩ = some (.int .i64 R3) ∧ w5.drew.cell? ⟨N, 4, none⟩ = some (.int .i64 R4) ∧ w5.drew.cell? ⟨N, 5, none⟩ = some (.int .i64 R5) ∧ w5.drew.cell? ⟨N, 6, none⟩ = some (.int .i64 R6) ∧ w5.drew.cell? ⟨T, 0, none⟩ = some (.int .i64 R0) ∧ w5.drew.cell? ⟨T, 1, none⟩ = some (.int .i64 R1) ∧ w5.drew.cell? ⟨T, 2, none⟩ = some (.int .i64 R2) ∧ w5.drew.cell? ⟨T, 3, none⟩ = some (.int .i64 R3) ∧ w5.drew.cell? ⟨T, 4, none⟩ = some (.int .i64 R4) ∧ w5.drew.cell? ⟨T, 5, none⟩ = some (.int .i64 R5) ∧ w5.drew.cell? ⟨T, 6, none⟩ = some (.int .i64 R6) ∧ w5.drew.cell? ⟨X, 0, none⟩ = some (.int .i64 X0) ∧ w5.drew.cell? ⟨X, 1, none⟩ = some (.int .i64 X1) ∧ w5.drew.cell? ⟨X, 2, none⟩ = some (.int .i64 X2) ∧ w5.drew.cell? ⟨X, 3, none⟩ = some (.int .i64 X3) ∧ w5.drew.cell? ⟨X, 4, none⟩ = some (.int .i64 X4) ∧ w5.drew.cell? ⟨X, 5, none⟩ = some (.int .i64 X5) ∧ w5.drew.cell? ⟨X, 6, none⟩ = some (.int .i64 X6) ∧ w5.grownBy w5.drew none := ⟨cn0, cn1, cn2, cn3, cn4, cn5, cn6, ct0, ct1, ct2, ct3, ct4, ct5, ct6, cx0, cx1, cx2, cx3, cx4, cx5, cx6, grownBy_drew⟩
      go_region_held3 (fun w' => w'.cell? ⟨N, 0, none⟩ = some (.int .i64 R0) ∧ w'.cell? ⟨N, 1, none⟩ = some (.int .i64 R1) ∧ w'.cell? ⟨N, 2, none⟩ = some (.int .i64 R2) ∧ w'.cell? ⟨N, 3, none⟩ = some (.int .i64 R3) ∧ w'.cell? ⟨N, 4, none⟩ = some (.int .i64 R4) ∧ w'.cell? ⟨N, 5, none⟩ = some (.int .i64 R5) ∧ w'.cell? ⟨N, 6, none⟩ = some (.int .i64 R6) ∧ w'.cell? ⟨T, 0, none⟩ = some (.int .i64 R0) ∧ w'.cell? ⟨T, 1, none⟩ = some (.int .i64 R1) ∧ w'.cell? ⟨T, 2, none⟩ = some (.int .i64 R2) ∧ w'.cell? ⟨T, 3, none⟩ = some (.int .i64 R3) ∧ w'.cell? ⟨T, 4, none⟩ = some (.int .i64 R4) ∧ w'.cell? ⟨T, 5, none⟩ = some (.int .i64 R5) ∧ w'.cell? ⟨T, 6, none⟩ = some (.int .i64 R6) ∧ w'.cell? ⟨X, 0, none⟩ = some (.int .i64 X0) ∧ w'.cell? ⟨X, 1, none⟩ = some (.int .i64 X1) ∧ w'.cell? ⟨X, 2, none⟩ = some (.int .i64 X2) ∧ w'.cell? ⟨X, 3, none⟩ = some (.int .i64 X3) ∧ w'.cell? ⟨X, 4, none⟩ = some (.int .i64 X4) ∧ w'.cell? ⟨X, 5, none⟩ = some (.int .i64 X5) ∧ w'.cell? ⟨X, 6, none⟩ = some (.int .i64 X6) ∧ w5.grownBy w' none) ((first | assumption | exact s21 (by assumption) grownBy_drew | exact s21 (by assumption) (World.grownBy_alloc _ _ none)))
        (first
          | (go_at_call 17; refine (HXI.out _).mono ?_; rintro e w6 ⟨rfl, hg⟩; have qb := s21 (by assumption) hg; obtain ⟨qb0, qb1, qb2, qb3, qb4, qb5, qb6, qb7, qb8, qb9, qb10, qb11, qb12, qb13, qb14, qb15, qb16, qb17, qb18, qb19, qb20, qbg⟩ := qb; have qb := And.intro qb0 (And.intro qb1 (And.intro qb2 (And.intro qb3 (And.intro qb4 (And.intro qb5 (And.intro qb6 (And.intro qb7 (And.intro qb8 (And.intro qb9 (And.intro qb10 (And.intro qb11 (And.intro qb12 (And.intro qb13 (And.intro qb14 (And.intro qb15 (And.intro qb16 (And.intro qb17 (And.intro qb18 (And.intro qb19 (And.intro qb20 (qbg))))))))))))))))))))))
          | (go_at_call 18; refine (HXS.out _).mono ?_; rintro e w7 ⟨rfl, hg⟩; have qb := s21 (by assumption) hg; obtain ⟨qb0, qb1, qb2, qb3, qb4, qb5, qb6, qb7, qb8, qb9, qb10, qb11, qb12, qb13, qb14, qb15, qb16, qb17, qb18, qb19, qb20, qbg⟩ := qb; have qb := And.intro qb0 (And.intro qb1 (And.intro qb2 (And.intro qb3 (And.intro qb4 (And.intro qb5 (And.intro qb6 (And.intro qb7 (And.intro qb8 (And.intro qb9 (And.intro qb10 (And.intro qb11 (And.intro qb12 (And.intro qb13 (And.intro qb14 (And.intro qb15 (And.intro qb16 (And.intro qb17 (And.intro qb18 (And.intro qb19 (And.intro qb20 (qbg))))))))))))))))))))))
          | (fail))
      have hg7 : w5.grownBy w7 none := by assumption
      have H7 := Lib.hid (And.intro (grownBy_trans H5.out.1 hg7) (And.intro (H5.out.2.1.keep hg7) (And.intro (H5.out.2.2.1.keep hg7) (H5.out.2.2.2.1.keep hg7))))
      obtain ⟨g1, g2, hR⟩ := HT.out (by first | rfl | trivial)
      have hF := step_facts m y l p d o g k n1 a1 f x g1 g2
      rw [hR] at hF
      have hm := hF.m
      have hup := hF.up
      dsimp only at hm hup
      have hokn := fun W => rn_okg R0 R1 R2 R3 R4 R5 R6 W
      simp only [hF.ok] at hokn
      have HON := Lib.hid hokn
      clear hokn hF hR g1 g2 hg7
      subst hm
      have cn07 : w7.cell? ⟨N, 0, none⟩ = some (.int .i64 R0) := H7.out.2.2.2.c 0 rfl
      have cn17 : w7.cell? ⟨N, 1, none⟩ = some (.int .i64 R1) := H7.out.2.2.2.c 1 rfl
      have cn27 : w7.cell? ⟨N, 2, none⟩ = some (.int .i64 R2) := H7.out.2.2.2.c 2 rfl
      have cn37 : w7.cell? ⟨N, 3, none⟩ = some (.int .i64 R3) := H7.out.2.2.2.c 3 rfl
      have cn47 : w7.cell? ⟨N, 4, none⟩ = some (.int .i64 R4) := H7.out.2.2.2.c 4 rfl
      have cn57 : w7.cell? ⟨N, 5, none⟩ = some (.int .i64 R5) := H7.out.2.2.2.c 5 rfl
      have cn67 : w7.cell? ⟨N, 6, none⟩ = some (.int .i64 R6) := H7.out.2.2.2.c 6 rfl
      go_wp2_with fail
      refine (HON.out _).mono ?_
      rintro e w8 ⟨rfl, hg⟩
      have H8 := Lib.hid (And.intro (grownBy_trans H7.out.1 hg) (And.intro (H7.out.2.1.keep hg) (And.intro (H7.out.2.2.1.keep hg) (H7.out.2.2.2.keep hg))))
      clear hg
      have ba0 := H8.out.2.1.c 0 (x := .int .i64 R0) rfl
      have ba1 := H8.out.2.1.c 1 (x := .int .i64 y) rfl
      have ba2 := H8.out.2.1.c 2 (x := .int .i64 l) rfl
      have ba3 := H8.out.2.1.c 3 (x := .int .i64 p) rfl
      have ba4 := H8.out.2.1.c 4 (x := .int .i64 d) rfl
      have ba5 := H8.out.2.1.c 5 (x := .int .i64 o) rfl
      have ba6 := H8.out.2.1.c 6 (x := .int .i64 g) rfl
      have be0 := H8.out.2.2.1.c 0 (x := .int .i64 k) rfl
      have be1 := H8.out.2.2.1.c 1 (x := .int .i64 n1) rfl
      have be2 := H8.out.2.2.1.c 2 (x := .int .i64 a1) rfl
      have be3 := H8.out.2.2.1.c 3 (x := .int .i64 f) rfl
      have be4 := H8.out.2.2.1.c 4 (x := .int .i64 x) rfl
      have bn0 := H8.out.2.2.2.c 0 (x := .int .i64 R0) rfl
      have bn1 := H8.out.2.2.2.c 1 (x := .int .i64 R1) rfl
      have bn2 := H8.out.2.2.2.c 2 (x := .int .i64 R2) rfl
      have bn3 := H8.out.2.2.2.c 3 (x := .int .i64 R3) rfl
      have bn4 := H8.out.2.2.2.c 4 (x := .int .i64 R4) rfl
      have bn5 := H8.out.2.2.2.c 5 (x := .int .i64 R5) rfl
      have bn6 := H8.out.2.2.2.c 6 (x := .int .i64 R6) rfl
      by_cases p3 : p = 3
      · subst p3
        go_wp2_with fail
        all_goals
          go_ret
          exact ⟨rfl, below_new H8.out.1⟩
      · by_cases k3 : k = 3
        · subst k3
          go_wp2_with fail
          all_goals
            go_ret
            exact ⟨rfl, below_new H8.out.1⟩
        · by_cases r3 : R3 = 3
          · subst r3
            go_wp2_with fail
            all_goals
              go_ret
              exact ⟨rfl, below_new H8.out.1⟩
          · have hyr : y ≤ R1 := by omega
            have dyr : decide (y ≤ R1) = true := decide_eq_true hyr
            clear hup
            go_wp2_with fail
            all_goals
              go_ret
              exact ⟨rfl, below_new H8.out.1⟩

set_option maxRecDepth 100000 in
theorem lifted (os : Os) (started : os.Started) (H : Type) (enc : TypeId × Value → H) :
    ReturnsInHanded {} Try.checked os 3 .any (Rows.fnRenoSpec.pre6 enc Try.prog Try.f3 Rows.fnRenoRow.domain false) (Rows.fnRenoSpec.post enc Try.prog Try.f3 false true false false) := by
  refine returnsInHanded_of_change (C := Try.checked) own started (by kernel_rfl) Try.func3
    (ChangeSpec.witness6 (enc := enc) (C := Try.checked) false ⟨#[], #[.slice none 0 0], []⟩ 8 (by kernel_rfl) (by kernel_rfl) (by kernel_rfl) (by kernel_rfl)) ?_
  intro W base args ds gs before hval0 hW hcnd _
  have hval : ∀ (j : Nat) t v, Try.f3.params[j]? = some t → args[j]? = some v → Value.okWide Try.prog W .any base t v := hval0
  have hW' := hW
  obtain ⟨p, q, hA0, hV, rfl, hfz, hnd⟩ := hW
  have hA : DataW.TrodAll enc Try.prog W 0 (fun _ => true) true Try.f3.params.toList args.toList ds p := hA0
  rw [Try.params3] at hA hval
  obtain ⟨v0, vs0, d0, ds0, p0, q0, hargs, rfl, rfl, h0, r0⟩ := trodAll_cons hA
  obtain ⟨rfl, rfl, rfl⟩ := trodAll_nil r0
  obtain rfl : args = #[v0] := by cases args; simp_all
  obtain ⟨rfl, rfl⟩ := trodVars_none hV
  have k0 := h0
  have lt0 : ∀ x ∈ p0, x.block < W.heap.size := by obtain ⟨m, hm⟩ := k0; exact DataW.trod_lt m _ _ _ hm
  obtain ⟨a0, len0, cap0, rfl⟩ := okWide_slice Try.underlying22 (hval 0 22 v0 rfl rfl)
  obtain ⟨z0, w0⟩ : ∃ zs, IsRow .u8 W a0 len0 cap0 zs := by
    obtain ⟨fuel, hf⟩ := h0
    rcases open_ints Try.underlying22 Try.underlying5 (by kernel_rfl) hf with ⟨hcs, _⟩ | ⟨x, l, c, zs, hcs, _, hl, hm, hz, _, hcell, hwz⟩
    · simp [Value.cells] at hcs
      obtain ⟨rfl, rfl, rfl⟩ := hcs
      exact ⟨[], .inl ⟨rfl, rfl, rfl, rfl⟩⟩
    · simp [Value.cells] at hcs
      obtain ⟨rfl, rfl, rfl⟩ := hcs
      exact ⟨zs, .inr ⟨_, rfl, hl, hm, by simpa using hz, hcell, hwz⟩⟩
  clear hA0 hval0
  refine (walk a0 len0 cap0 z0 W w0).mono fun e W' ⟨he, bel⟩ => ?_
  subst he
  exact ⟨_, rfl, _, _, _, [], _, [], hW', trodAll_mk1 (shut_bool Try.underlying4 _), (trodAll_cons_mk (Below.trod laidOut (by kernel_rfl) (of_decide_eq_true (by kernel_rfl)) k0 bel lt0) trodAll_mk0), rfl, bel.frame _, fun h => by cases h⟩

theorem over : Rows.fnRenoRow.holds Try.pinned (OpenSpec.ofChange Rows.fnRenoSpec) :=
  OpenClaim.holds_of_wide 3 Try.f3 rfl rfl rfl rfl rfl rfl rfl ⟨rfl, rfl, rfl, rfl, rfl⟩ rfl rfl rfl rfl rfl (by kernel_rfl) Try.func3 (by kernel_rfl)
    (of_decide_eq_true (by kernel_rfl)) (by unfold Func.isWrapper; first | (rw [if_pos (by decide +kernel)]; kernel_rfl) | (rw [if_neg (by decide +kernel)]; exact ⟨rfl, rfl⟩))
    (fun os started H enc _ => lifted os started H enc)

theorem proved : Rows.FnRenoSaid := over
end Go.Proofs.Yteicihinpjjllaa.fnReno
