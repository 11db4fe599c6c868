/- For all three numbers the law FnExactWorldNew answers true; no condition. -/
import Derived.Test.YtdlegnbjcgceeaaRows
import Derived.Test.YtdlegnbjcgceeaaDraw
import Derived.Test.YtdlegnbjcgceeaaAgg
import Derived.Test.YtdlegnbjcgceeaaWn
import Derived.WalkKit
import Derived.ProofKit
import Derived.OpenShut
import Derived.ShutString
import Derived.ChangeOld
import Derived.Below
import Derived.Lib.SmallJoins
namespace Go.Proofs.Ytdlegnbjcgceeaa.fnExactWorldNew
open Go.ChangeShapes Go.WideShapes Go.ChangeAt Go.RowKit Go.Joins
open Go.ChangeMaps (open_string shut_string)
set_option linter.unusedVariables false

theorem own : ownKnob Try.prog.godebug = none := by kernel_rfl
theorem laidOut : laidOutB Try.prog = true := by kernel_rfl


theorem dummy12 : True := trivial

set_option maxRecDepth 100000 in
set_option maxHeartbeats 4000000 in
theorem walk (a0 : Int) (a1 : Int) (a2 : Int) (w : World) (w0 : (Lit.int .i64 a0).wf = true) (w1 : (Lit.int .i64 a1).wf = true) (w2 : (Lit.int .i64 a2).wf = true) :
    Calls Try.prog 3 #[.int .i64 a0, .int .i64 a1, .int .i64 a2] w fun e w' => e = .returned (.bool true) ∧ Below w.heap.size w w' := by
  obtain ⟨T, R0, R1, R2, R3, R4, R5, R6, b, hv⟩ := wn_form a0 a1 a2
  have hs := fun W => wn_newS a0 a1 a2 W
  have hi := fun W => wn_newI a0 a1 a2 W
  simp only [hv] at hs hi
  have HS := Lib.hid hs
  have HI := Lib.hid hi
  clear hs hi hv w0 w1 w2
  go_enter Try.func3, Try.ntmps3
  go_wp2_with fail
  refine (HS.out _).mono ?_
  rintro e w1 ⟨rfl, hg⟩
  have HG1 := Lib.hid hg
  clear hg
  have HA1 := Lib.hid (And.intro (Bx.new w1 30 #[.int .i64 T, .int .i64 R0, .int .i64 R1, .int .i64 R2, .int .i64 R3, .int .i64 R4, .int .i64 R5, .int .i64 R6, .int .i64 0, .int .i64 0, .slice none 0 0, .slice none 0 0, .slice none 0 0, .slice none 0 0, .slice none 0 0]) (gA HG1.out (.cells #[.int .i64 T, .int .i64 R0, .int .i64 R1, .int .i64 R2, .int .i64 R3, .int .i64 R4, .int .i64 R5, .int .i64 R6, .int .i64 0, .int .i64 0, .slice none 0 0, .slice none 0 0, .slice none 0 0, .slice none 0 0, .slice none 0 0] 30)))
  go_wp2_with fail
  refine (HI.out _).mono ?_
  rintro e w2 ⟨rfl, hg⟩
  have HA2 := Lib.hid (And.intro (HA1.out.1.keep hg) (grownBy_trans HA1.out.2 hg))
  clear hg
  have l1 : w1.heap.size < w2.heap.size := HA2.out.1.lt
  have HB2 := Lib.hid (And.intro (HA2.out.1.alloc (.cells #[.int .i64 T, .int .i64 R0, .int .i64 R1, .int .i64 R2, .int .i64 R3, .int .i64 R4, .int .i64 R5, .int .i64 R6, .int .i64 0, .int .i64 0, .slice none 0 0, .slice none 0 0, .slice none 0 0, .slice none 0 0, .slice none 0 0] 30)) (And.intro (Bx.new w2 30 #[.int .i64 T, .int .i64 R0, .int .i64 R1, .int .i64 R2, .int .i64 R3, .int .i64 R4, .int .i64 R5, .int .i64 R6, .int .i64 0, .int .i64 0, .slice none 0 0, .slice none 0 0, .slice none 0 0, .slice none 0 0, .slice none 0 0]) (gA HA2.out.2 (.cells #[.int .i64 T, .int .i64 R0, .int .i64 R1, .int .i64 R2, .int .i64 R3, .int .i64 R4, .int .i64 R5, .int .i64 R6, .int .i64 0, .int .i64 0, .slice none 0 0, .slice none 0 0, .slice none 0 0, .slice none 0 0, .slice none 0 0] 30))))
  have c0 : w2.cell? ⟨w1.heap.size, 0, none⟩ = some (.int .i64 T) := HA2.out.1.c 0 rfl
  have c1 : w2.cell? ⟨w1.heap.size, 1, none⟩ = some (.int .i64 R0) := HA2.out.1.c 1 rfl
  have c2 : w2.cell? ⟨w1.heap.size, 2, none⟩ = some (.int .i64 R1) := HA2.out.1.c 2 rfl
  have c3 : w2.cell? ⟨w1.heap.size, 3, none⟩ = some (.int .i64 R2) := HA2.out.1.c 3 rfl
  have c4 : w2.cell? ⟨w1.heap.size, 4, none⟩ = some (.int .i64 R3) := HA2.out.1.c 4 rfl
  have c5 : w2.cell? ⟨w1.heap.size, 5, none⟩ = some (.int .i64 R4) := HA2.out.1.c 5 rfl
  have c6 : w2.cell? ⟨w1.heap.size, 6, none⟩ = some (.int .i64 R5) := HA2.out.1.c 6 rfl
  have c7 : w2.cell? ⟨w1.heap.size, 7, none⟩ = some (.int .i64 R6) := HA2.out.1.c 7 rfl
  have c8 : w2.cell? ⟨w1.heap.size, 8, none⟩ = some (.int .i64 0) := HA2.out.1.c 8 rfl
  have c9 : w2.cell? ⟨w1.heap.size, 9, none⟩ = some (.int .i64 0) := HA2.out.1.c 9 rfl
  have c10 : w2.cell? ⟨w1.heap.size, 10, none⟩ = some (.slice none 0 0) := HA2.out.1.c 10 rfl
  have c11 : w2.cell? ⟨w1.heap.size, 11, none⟩ = some (.slice none 0 0) := HA2.out.1.c 11 rfl
  have c12 : w2.cell? ⟨w1.heap.size, 12, none⟩ = some (.slice none 0 0) := HA2.out.1.c 12 rfl
  have c13 : w2.cell? ⟨w1.heap.size, 13, none⟩ = some (.slice none 0 0) := HA2.out.1.c 13 rfl
  have c14 : w2.cell? ⟨w1.heap.size, 14, none⟩ = some (.slice none 0 0) := HA2.out.1.c 14 rfl
  go_wp2_with fail
  refine (eqWorld_nil T R0 R1 R2 R3 R4 R5 R6 _).mono ?_
  rintro e w3 ⟨rfl, hg⟩
  clear c0 c1 c2 c3 c4 c5 c6 c7 c8 c9 c10 c11 c12 c13 c14
  have HB3 := Lib.hid (And.intro (HB2.out.1.keep hg) (And.intro (HB2.out.2.1.keep hg) (grownBy_trans HB2.out.2.2 hg)))
  clear hg
  have l2 := HB3.out.2.1.lt
  have c0 : w3.cell? ⟨w1.heap.size, 0, none⟩ = some (.int .i64 T) := HB3.out.1.c 0 rfl
  have c1 : w3.cell? ⟨w1.heap.size, 1, none⟩ = some (.int .i64 R0) := HB3.out.1.c 1 rfl
  have c2 : w3.cell? ⟨w1.heap.size, 2, none⟩ = some (.int .i64 R1) := HB3.out.1.c 2 rfl
  have c3 : w3.cell? ⟨w1.heap.size, 3, none⟩ = some (.int .i64 R2) := HB3.out.1.c 3 rfl
  have c4 : w3.cell? ⟨w1.heap.size, 4, none⟩ = some (.int .i64 R3) := HB3.out.1.c 4 rfl
  have c5 : w3.cell? ⟨w1.heap.size, 5, none⟩ = some (.int .i64 R4) := HB3.out.1.c 5 rfl
  have c6 : w3.cell? ⟨w1.heap.size, 6, none⟩ = some (.int .i64 R5) := HB3.out.1.c 6 rfl
  have c7 : w3.cell? ⟨w1.heap.size, 7, none⟩ = some (.int .i64 R6) := HB3.out.1.c 7 rfl
  have c8 : w3.cell? ⟨w1.heap.size, 8, none⟩ = some (.int .i64 0) := HB3.out.1.c 8 rfl
  have c9 : w3.cell? ⟨w1.heap.size, 9, none⟩ = some (.int .i64 0) := HB3.out.1.c 9 rfl
  have c10 : w3.cell? ⟨w1.heap.size, 10, none⟩ = some (.slice none 0 0) := HB3.out.1.c 10 rfl
  have c11 : w3.cell? ⟨w1.heap.size, 11, none⟩ = some (.slice none 0 0) := HB3.out.1.c 11 rfl
  have c12 : w3.cell? ⟨w1.heap.size, 12, none⟩ = some (.slice none 0 0) := HB3.out.1.c 12 rfl
  have c13 : w3.cell? ⟨w1.heap.size, 13, none⟩ = some (.slice none 0 0) := HB3.out.1.c 13 rfl
  have c14 : w3.cell? ⟨w1.heap.size, 14, none⟩ = some (.slice none 0 0) := HB3.out.1.c 14 rfl
  have d0 : w3.cell? ⟨w2.heap.size, 0, none⟩ = some (.int .i64 T) := HB3.out.2.1.c 0 rfl
  have d1 : w3.cell? ⟨w2.heap.size, 1, none⟩ = some (.int .i64 R0) := HB3.out.2.1.c 1 rfl
  have d2 : w3.cell? ⟨w2.heap.size, 2, none⟩ = some (.int .i64 R1) := HB3.out.2.1.c 2 rfl
  have d3 : w3.cell? ⟨w2.heap.size, 3, none⟩ = some (.int .i64 R2) := HB3.out.2.1.c 3 rfl
  have d4 : w3.cell? ⟨w2.heap.size, 4, none⟩ = some (.int .i64 R3) := HB3.out.2.1.c 4 rfl
  have d5 : w3.cell? ⟨w2.heap.size, 5, none⟩ = some (.int .i64 R4) := HB3.out.2.1.c 5 rfl
  have d6 : w3.cell? ⟨w2.heap.size, 6, none⟩ = some (.int .i64 R5) := HB3.out.2.1.c 6 rfl
  have d7 : w3.cell? ⟨w2.heap.size, 7, none⟩ = some (.int .i64 R6) := HB3.out.2.1.c 7 rfl
  have d8 : w3.cell? ⟨w2.heap.size, 8, none⟩ = some (.int .i64 0) := HB3.out.2.1.c 8 rfl
  have d9 : w3.cell? ⟨w2.heap.size, 9, none⟩ = some (.int .i64 0) := HB3.out.2.1.c 9 rfl
  have d10 : w3.cell? ⟨w2.heap.size, 10, none⟩ = some (.slice none 0 0) := HB3.out.2.1.c 10 rfl
  have d11 : w3.cell? ⟨w2.heap.size, 11, none⟩ = some (.slice none 0 0) := HB3.out.2.1.c 11 rfl
  have d12 : w3.cell? ⟨w2.heap.size, 12, none⟩ = some (.slice none 0 0) := HB3.out.2.1.c 12 rfl
  have d13 : w3.cell? ⟨w2.heap.size, 13, none⟩ = some (.slice none 0 0) := HB3.out.2.1.c 13 rfl
  have d14 : w3.cell? ⟨w2.heap.size, 14, none⟩ = some (.slice none 0 0) := HB3.out.2.1.c 14 rfl
  as_aux_lemma =>
    go_wp2_with fail
    refine (markWorld_nil T R0 R1 R2 R3 R4 R5 R6 1 _).mono ?_
    rintro e w4 ⟨rfl, hg⟩
    have HB4 := Lib.hid (And.intro (HB3.out.1.keep hg) (And.intro (HB3.out.2.1.keep hg) (grownBy_trans HB3.out.2.2 hg)))
    clear hg
    clear c0 c1 c2 c3 c4 c5 c6 c7 c8 c9 c10 c11 c12 c13 c14
    clear d0 d1 d2 d3 d4 d5 d6 d7 d8 d9 d10 d11 d12 d13 d14
    have l3 := HB4.out.2.1.lt
    have c0 : w4.cell? ⟨w1.heap.size, 0, none⟩ = some (.int .i64 T) := HB4.out.1.c 0 rfl
    have c1 : w4.cell? ⟨w1.heap.size, 1, none⟩ = some (.int .i64 R0) := HB4.out.1.c 1 rfl
    have c2 : w4.cell? ⟨w1.heap.size, 2, none⟩ = some (.int .i64 R1) := HB4.out.1.c 2 rfl
    have c3 : w4.cell? ⟨w1.heap.size, 3, none⟩ = some (.int .i64 R2) := HB4.out.1.c 3 rfl
    have c4 : w4.cell? ⟨w1.heap.size, 4, none⟩ = some (.int .i64 R3) := HB4.out.1.c 4 rfl
    have c5 : w4.cell? ⟨w1.heap.size, 5, none⟩ = some (.int .i64 R4) := HB4.out.1.c 5 rfl
    have c6 : w4.cell? ⟨w1.heap.size, 6, none⟩ = some (.int .i64 R5) := HB4.out.1.c 6 rfl
    have c7 : w4.cell? ⟨w1.heap.size, 7, none⟩ = some (.int .i64 R6) := HB4.out.1.c 7 rfl
    have c8 : w4.cell? ⟨w1.heap.size, 8, none⟩ = some (.int .i64 0) := HB4.out.1.c 8 rfl
    have c9 : w4.cell? ⟨w1.heap.size, 9, none⟩ = some (.int .i64 0) := HB4.out.1.c 9 rfl
    have c10 : w4.cell? ⟨w1.heap.size, 10, none⟩ = some (.slice none 0 0) := HB4.out.1.c 10 rfl
    have c11 : w4.cell? ⟨w1.heap.size, 11, none⟩ = some (.slice none 0 0) := HB4.out.1.c 11 rfl
    have c12 : w4.cell? ⟨w1.heap.size, 12, none⟩ = some (.slice none 0 0) := HB4.out.1.c 12 rfl
    have c13 : w4.cell? ⟨w1.heap.size, 13, none⟩ = some (.slice none 0 0) := HB4.out.1.c 13 rfl
    have c14 : w4.cell? ⟨w1.heap.size, 14, none⟩ = some (.slice none 0 0) := HB4.out.1.c 14 rfl
    have d0 : w4.cell? ⟨w2.heap.size, 0, none⟩ = some (.int .i64 T) := HB4.out.2.1.c 0 rfl
    have d1 : w4.cell? ⟨w2.heap.size, 1, none⟩ = some (.int .i64 R0) := HB4.out.2.1.c 1 rfl
    have d2 : w4.cell? ⟨w2.heap.size, 2, none⟩ = some (.int .i64 R1) := HB4.out.2.1.c 2 rfl
    have d3 : w4.cell? ⟨w2.heap.size, 3, none⟩ = some (.int .i64 R2) := HB4.out.2.1.c 3 rfl
    have d4 : w4.cell? ⟨w2.heap.size, 4, none⟩ = some (.int .i64 R3) := HB4.out.2.1.c 4 rfl
    have d5 : w4.cell? ⟨w2.heap.size, 5, none⟩ = some (.int .i64 R4) := HB4.out.2.1.c 5 rfl
    have d6 : w4.cell? ⟨w2.heap.size, 6, none⟩ = some (.int .i64 R5) := HB4.out.2.1.c 6 rfl
    have d7 : w4.cell? ⟨w2.heap.size, 7, none⟩ = some (.int .i64 R6) := HB4.out.2.1.c 7 rfl
    have d8 : w4.cell? ⟨w2.heap.size, 8, none⟩ = some (.int .i64 0) := HB4.out.2.1.c 8 rfl
    have d9 : w4.cell? ⟨w2.heap.size, 9, none⟩ = some (.int .i64 0) := HB4.out.2.1.c 9 rfl
    have d10 : w4.cell? ⟨w2.heap.size, 10, none⟩ = some (.slice none 0 0) := HB4.out.2.1.c 10 rfl
    have d11 : w4.cell? ⟨w2.heap.size, 11, none⟩ = some (.slice none 0 0) := HB4.out.2.1.c 11 rfl
    have d12 : w4.cell? ⟨w2.heap.size, 12, none⟩ = some (.slice none 0 0) := HB4.out.2.1.c 12 rfl
    have d13 : w4.cell? ⟨w2.heap.size, 13, none⟩ = some (.slice none 0 0) := HB4.out.2.1.c 13 rfl
    have d14 : w4.cell? ⟨w2.heap.size, 14, none⟩ = some (.slice none 0 0) := HB4.out.2.1.c 14 rfl
    as_aux_lemma =>
      go_wp2_with fail
      refine (heldWorld_nil T R0 R1 R2 R3 R4 R5 R6 _).mono ?_
      rintro e w5 ⟨rfl, hg⟩
      have HB5 := Lib.hid (And.intro (HB4.out.1.keep hg) (And.intro (HB4.out.2.1.keep hg) (grownBy_trans HB4.out.2.2 hg)))
      clear hg
      clear c0 c1 c2 c3 c4 c5 c6 c7 c8 c9 c10 c11 c12 c13 c14
      clear d0 d1 d2 d3 d4 d5 d6 d7 d8 d9 d10 d11 d12 d13 d14
      have l4 := HB5.out.2.1.lt
      have c0 : w5.cell? ⟨w1.heap.size, 0, none⟩ = some (.int .i64 T) := HB5.out.1.c 0 rfl
      have c1 : w5.cell? ⟨w1.heap.size, 1, none⟩ = some (.int .i64 R0) := HB5.out.1.c 1 rfl
      have c2 : w5.cell? ⟨w1.heap.size, 2, none⟩ = some (.int .i64 R1) := HB5.out.1.c 2 rfl
      have c3 : w5.cell? ⟨w1.heap.size, 3, none⟩ = some (.int .i64 R2) := HB5.out.1.c 3 rfl
      have c4 : w5.cell? ⟨w1.heap.size, 4, none⟩ = some (.int .i64 R3) := HB5.out.1.c 4 rfl
      have c5 : w5.cell? ⟨w1.heap.size, 5, none⟩ = some (.int .i64 R4) := HB5.out.1.c 5 rfl
      have c6 : w5.cell? ⟨w1.heap.size, 6, none⟩ = some (.int .i64 R5) := HB5.out.1.c 6 rfl
      have c7 : w5.cell? ⟨w1.heap.size, 7, none⟩ = some (.int .i64 R6) := HB5.out.1.c 7 rfl
      have c8 : w5.cell? ⟨w1.heap.size, 8, none⟩ = some (.int .i64 0) := HB5.out.1.c 8 rfl
      have c9 : w5.cell? ⟨w1.heap.size, 9, none⟩ = some (.int .i64 0) := HB5.out.1.c 9 rfl
      have c10 : w5.cell? ⟨w1.heap.size, 10, none⟩ = some (.slice none 0 0) := HB5.out.1.c 10 rfl
      have c11 : w5.cell? ⟨w1.heap.size, 11, none⟩ = some (.slice none 0 0) := HB5.out.1.c 11 rfl
      have c12 : w5.cell? ⟨w1.heap.size, 12, none⟩ = some (.slice none 0 0) := HB5.out.1.c 12 rfl
      have c13 : w5.cell? ⟨w1.heap.size, 13, none⟩ = some (.slice none 0 0) := HB5.out.1.c 13 rfl
      have c14 : w5.cell? ⟨w1.heap.size, 14, none⟩ = some (.slice none 0 0) := HB5.out.1.c 14 rfl
      have d0 : w5.cell? ⟨w2.heap.size, 0, none⟩ = some (.int .i64 T) := HB5.out.2.1.c 0 rfl
      have d1 : w5.cell? ⟨w2.heap.size, 1, none⟩ = some (.int .i64 R0) := HB5.out.2.1.c 1 rfl
      have d2 : w5.cell? ⟨w2.heap.size, 2, none⟩ = some (.int .i64 R1) := HB5.out.2.1.c 2 rfl
      have d3 : w5.cell? ⟨w2.heap.size, 3, none⟩ = some (.int .i64 R2) := HB5.out.2.1.c 3 rfl
      have d4 : w5.cell? ⟨w2.heap.size, 4, none⟩ = some (.int .i64 R3) := HB5.out.2.1.c 4 rfl
      have d5 : w5.cell? ⟨w2.heap.size, 5, none⟩ = some (.int .i64 R4) := HB5.out.2.1.c 5 rfl
      have d6 : w5.cell? ⟨w2.heap.size, 6, none⟩ = some (.int .i64 R5) := HB5.out.2.1.c 6 rfl
      have d7 : w5.cell? ⟨w2.heap.size, 7, none⟩ = some (.int .i64 R6) := HB5.out.2.1.c 7 rfl
      have d8 : w5.cell? ⟨w2.heap.size, 8, none⟩ = some (.int .i64 0) := HB5.out.2.1.c 8 rfl
      have d9 : w5.cell? ⟨w2.heap.size, 9, none⟩ = some (.int .i64 0) := HB5.out.2.1.c 9 rfl
      have d10 : w5.cell? ⟨w2.heap.size, 10, none⟩ = some (.slice none 0 0) := HB5.out.2.1.c 10 rfl
      have d11 : w5.cell? ⟨w2.heap.size, 11, none⟩ = some (.slice none 0 0) := HB5.out.2.1.c 11 rfl
      have d12 : w5.cell? ⟨w2.heap.size, 12, none⟩ = some (.slice none 0 0) := HB5.out.2.1.c 12 rfl
      have d13 : w5.cell? ⟨w2.heap.size, 13, none⟩ = some (.slice none 0 0) := HB5.out.2.1.c 13 rfl
      have d14 : w5.cell? ⟨w2.heap.size, 14, none⟩ = some (.slice none 0 0) := HB5.out.2.1.c 14 rfl
      as_aux_lemma =>
        go_wp2_with fail
        refine (HI.out _).mono ?_
        rintro e w6 ⟨rfl, hg⟩
        have HB6 := Lib.hid (And.intro (HB5.out.1.keep hg) (And.intro (HB5.out.2.1.keep hg) (grownBy_trans HB5.out.2.2 hg)))
        clear hg
        clear c0 c1 c2 c3 c4 c5 c6 c7 c8 c9 c10 c11 c12 c13 c14
        clear d0 d1 d2 d3 d4 d5 d6 d7 d8 d9 d10 d11 d12 d13 d14
        have HD := Lib.hid (And.intro (HB6.out.1.alloc (.cells #[.int .i64 T, .int .i64 R0, .int .i64 R1, .int .i64 R2, .int .i64 R3, .int .i64 R4, .int .i64 R5, .int .i64 R6, .int .i64 0, .int .i64 0, .slice none 0 0, .slice none 0 0, .slice none 0 0, .slice none 0 0, .slice none 0 0] 30)) (And.intro (HB6.out.2.1.alloc (.cells #[.int .i64 T, .int .i64 R0, .int .i64 R1, .int .i64 R2, .int .i64 R3, .int .i64 R4, .int .i64 R5, .int .i64 R6, .int .i64 0, .int .i64 0, .slice none 0 0, .slice none 0 0, .slice none 0 0, .slice none 0 0, .slice none 0 0] 30)) (And.intro (Bx.new w6 30 #[.int .i64 T, .int .i64 R0, .int .i64 R1, .int .i64 R2, .int .i64 R3, .int .i64 R4, .int .i64 R5, .int .i64 R6, .int .i64 0, .int .i64 0, .slice none 0 0, .slice none 0 0, .slice none 0 0, .slice none 0 0, .slice none 0 0]) (gA HB6.out.2.2 (.cells #[.int .i64 T, .int .i64 R0, .int .i64 R1, .int .i64 R2, .int .i64 R3, .int .i64 R4, .int .i64 R5, .int .i64 R6, .int .i64 0, .int .i64 0, .slice none 0 0, .slice none 0 0, .slice none 0 0, .slice none 0 0, .slice none 0 0] 30)))))
        have m1 : w1.heap.size < w6.heap.size := HB6.out.1.lt
        have m2 : w2.heap.size < w6.heap.size := HB6.out.2.1.lt
        have c0 : w6.cell? ⟨w1.heap.size, 0, none⟩ = some (.int .i64 T) := HB6.out.1.c 0 rfl
        have c1 : w6.cell? ⟨w1.heap.size, 1, none⟩ = some (.int .i64 R0) := HB6.out.1.c 1 rfl
        have c2 : w6.cell? ⟨w1.heap.size, 2, none⟩ = some (.int .i64 R1) := HB6.out.1.c 2 rfl
        have c3 : w6.cell? ⟨w1.heap.size, 3, none⟩ = some (.int .i64 R2) := HB6.out.1.c 3 rfl
        have c4 : w6.cell? ⟨w1.heap.size, 4, none⟩ = some (.int .i64 R3) := HB6.out.1.c 4 rfl
        have c5 : w6.cell? ⟨w1.heap.size, 5, none⟩ = some (.int .i64 R4) := HB6.out.1.c 5 rfl
        have c6 : w6.cell? ⟨w1.heap.size, 6, none⟩ = some (.int .i64 R5) := HB6.out.1.c 6 rfl
        have c7 : w6.cell? ⟨w1.heap.size, 7, none⟩ = some (.int .i64 R6) := HB6.out.1.c 7 rfl
        have c8 : w6.cell? ⟨w1.heap.size, 8, none⟩ = some (.int .i64 0) := HB6.out.1.c 8 rfl
        have c9 : w6.cell? ⟨w1.heap.size, 9, none⟩ = some (.int .i64 0) := HB6.out.1.c 9 rfl
        have c10 : w6.cell? ⟨w1.heap.size, 10, none⟩ = some (.slice none 0 0) := HB6.out.1.c 10 rfl
        have c11 : w6.cell? ⟨w1.heap.size, 11, none⟩ = some (.slice none 0 0) := HB6.out.1.c 11 rfl
        have c12 : w6.cell? ⟨w1.heap.size, 12, none⟩ = some (.slice none 0 0) := HB6.out.1.c 12 rfl
        have c13 : w6.cell? ⟨w1.heap.size, 13, none⟩ = some (.slice none 0 0) := HB6.out.1.c 13 rfl
        have c14 : w6.cell? ⟨w1.heap.size, 14, none⟩ = some (.slice none 0 0) := HB6.out.1.c 14 rfl
        have d0 : w6.cell? ⟨w2.heap.size, 0, none⟩ = some (.int .i64 T) := HB6.out.2.1.c 0 rfl
        have d1 : w6.cell? ⟨w2.heap.size, 1, none⟩ = some (.int .i64 R0) := HB6.out.2.1.c 1 rfl
        have d2 : w6.cell? ⟨w2.heap.size, 2, none⟩ = some (.int .i64 R1) := HB6.out.2.1.c 2 rfl
        have d3 : w6.cell? ⟨w2.heap.size, 3, none⟩ = some (.int .i64 R2) := HB6.out.2.1.c 3 rfl
        have d4 : w6.cell? ⟨w2.heap.size, 4, none⟩ = some (.int .i64 R3) := HB6.out.2.1.c 4 rfl
        have d5 : w6.cell? ⟨w2.heap.size, 5, none⟩ = some (.int .i64 R4) := HB6.out.2.1.c 5 rfl
        have d6 : w6.cell? ⟨w2.heap.size, 6, none⟩ = some (.int .i64 R5) := HB6.out.2.1.c 6 rfl
        have d7 : w6.cell? ⟨w2.heap.size, 7, none⟩ = some (.int .i64 R6) := HB6.out.2.1.c 7 rfl
        have d8 : w6.cell? ⟨w2.heap.size, 8, none⟩ = some (.int .i64 0) := HB6.out.2.1.c 8 rfl
        have d9 : w6.cell? ⟨w2.heap.size, 9, none⟩ = some (.int .i64 0) := HB6.out.2.1.c 9 rfl
        have d10 : w6.cell? ⟨w2.heap.size, 10, none⟩ = some (.slice none 0 0) := HB6.out.2.1.c 10 rfl
        have d11 : w6.cell? ⟨w2.heap.size, 11, none⟩ = some (.slice none 0 0) := HB6.out.2.1.c 11 rfl
        have d12 : w6.cell? ⟨w2.heap.size, 12, none⟩ = some (.slice none 0 0) := HB6.out.2.1.c 12 rfl
        have d13 : w6.cell? ⟨w2.heap.size, 13, none⟩ = some (.slice none 0 0) := HB6.out.2.1.c 13 rfl
        have d14 : w6.cell? ⟨w2.heap.size, 14, none⟩ = some (.slice none 0 0) := HB6.out.2.1.c 14 rfl
        as_aux_lemma =>
          go_wp2_with fail
          refine (eqWorld_nil T R0 R1 R2 R3 R4 R5 R6 _).mono ?_
          rintro e w7 ⟨rfl, hg⟩
          have HE := Lib.hid (And.intro (HD.out.1.keep hg) (And.intro (HD.out.2.1.keep hg) (grownBy_trans HD.out.2.2.2 hg)))
          clear hg
          clear c0 c1 c2 c3 c4 c5 c6 c7 c8 c9 c10 c11 c12 c13 c14
          clear d0 d1 d2 d3 d4 d5 d6 d7 d8 d9 d10 d11 d12 d13 d14
          have c0 : w7.cell? ⟨w1.heap.size, 0, none⟩ = some (.int .i64 T) := HE.out.1.c 0 rfl
          have c1 : w7.cell? ⟨w1.heap.size, 1, none⟩ = some (.int .i64 R0) := HE.out.1.c 1 rfl
          have c2 : w7.cell? ⟨w1.heap.size, 2, none⟩ = some (.int .i64 R1) := HE.out.1.c 2 rfl
          have c3 : w7.cell? ⟨w1.heap.size, 3, none⟩ = some (.int .i64 R2) := HE.out.1.c 3 rfl
          have c4 : w7.cell? ⟨w1.heap.size, 4, none⟩ = some (.int .i64 R3) := HE.out.1.c 4 rfl
          have c5 : w7.cell? ⟨w1.heap.size, 5, none⟩ = some (.int .i64 R4) := HE.out.1.c 5 rfl
          have c6 : w7.cell? ⟨w1.heap.size, 6, none⟩ = some (.int .i64 R5) := HE.out.1.c 6 rfl
          have c7 : w7.cell? ⟨w1.heap.size, 7, none⟩ = some (.int .i64 R6) := HE.out.1.c 7 rfl
          have c8 : w7.cell? ⟨w1.heap.size, 8, none⟩ = some (.int .i64 0) := HE.out.1.c 8 rfl
          have c9 : w7.cell? ⟨w1.heap.size, 9, none⟩ = some (.int .i64 0) := HE.out.1.c 9 rfl
          have c10 : w7.cell? ⟨w1.heap.size, 10, none⟩ = some (.slice none 0 0) := HE.out.1.c 10 rfl
          have c11 : w7.cell? ⟨w1.heap.size, 11, none⟩ = some (.slice none 0 0) := HE.out.1.c 11 rfl
          have c12 : w7.cell? ⟨w1.heap.size, 12, none⟩ = some (.slice none 0 0) := HE.out.1.c 12 rfl
          have c13 : w7.cell? ⟨w1.heap.size, 13, none⟩ = some (.slice none 0 0) := HE.out.1.c 13 rfl
          have c14 : w7.cell? ⟨w1.heap.size, 14, none⟩ = some (.slice none 0 0) := HE.out.1.c 14 rfl
          have d0 : w7.cell? ⟨w2.heap.size, 0, none⟩ = some (.int .i64 T) := HE.out.2.1.c 0 rfl
          have d1 : w7.cell? ⟨w2.heap.size, 1, none⟩ = some (.int .i64 R0) := HE.out.2.1.c 1 rfl
          have d2 : w7.cell? ⟨w2.heap.size, 2, none⟩ = some (.int .i64 R1) := HE.out.2.1.c 2 rfl
          have d3 : w7.cell? ⟨w2.heap.size, 3, none⟩ = some (.int .i64 R2) := HE.out.2.1.c 3 rfl
          have d4 : w7.cell? ⟨w2.heap.size, 4, none⟩ = some (.int .i64 R3) := HE.out.2.1.c 4 rfl
          have d5 : w7.cell? ⟨w2.heap.size, 5, none⟩ = some (.int .i64 R4) := HE.out.2.1.c 5 rfl
          have d6 : w7.cell? ⟨w2.heap.size, 6, none⟩ = some (.int .i64 R5) := HE.out.2.1.c 6 rfl
          have d7 : w7.cell? ⟨w2.heap.size, 7, none⟩ = some (.int .i64 R6) := HE.out.2.1.c 7 rfl
          have d8 : w7.cell? ⟨w2.heap.size, 8, none⟩ = some (.int .i64 0) := HE.out.2.1.c 8 rfl
          have d9 : w7.cell? ⟨w2.heap.size, 9, none⟩ = some (.int .i64 0) := HE.out.2.1.c 9 rfl
          have d10 : w7.cell? ⟨w2.heap.size, 10, none⟩ = some (.slice none 0 0) := HE.out.2.1.c 10 rfl
          have d11 : w7.cell? ⟨w2.heap.size, 11, none⟩ = some (.slice none 0 0) := HE.out.2.1.c 11 rfl
          have d12 : w7.cell? ⟨w2.heap.size, 12, none⟩ = some (.slice none 0 0) := HE.out.2.1.c 12 rfl
          have d13 : w7.cell? ⟨w2.heap.size, 13, none⟩ = some (.slice none 0 0) := HE.out.2.1.c 13 rfl
          have d14 : w7.cell? ⟨w2.heap.size, 14, none⟩ = some (.slice none 0 0) := HE.out.2.1.c 14 rfl
          as_aux_lemma =>
            go_wp2_with fail
            refine (heldWorld_nil T R0 R1 R2 R3 R4 R5 R6 _).mono ?_
            rintro e w8 ⟨rfl, hg⟩
            have HZ := Lib.hid (grownBy_trans HE.out.2.2 hg)
            clear hg
            go_wp2_with fail
            go_ret
            exact ⟨rfl, below_new HZ.out⟩

set_option maxRecDepth 100000 in
theorem lifted (os : Os) (started : os.Started) (H : Type) (enc : TypeId × Value → H) :
    ReturnsInHanded {} Try.checked os 3 .any (Rows.fnExactWorldNewSpec.pre6 enc Try.prog Try.f3 Rows.fnExactWorldNewRow.domain false) (Rows.fnExactWorldNewSpec.post enc Try.prog Try.f3 false true false false) := by
  refine returnsInHanded_of_change (C := Try.checked) own started (by kernel_rfl) Try.func3
    (ChangeSpec.witness6 (enc := enc) (C := Try.checked) false ⟨#[], #[.int .i64 0, .int .i64 0, .int .i64 0], []⟩ 8 (by kernel_rfl) (by kernel_rfl) (by kernel_rfl) (by kernel_rfl)) ?_
  intro W base args ds gs before hval0 hW hcnd _
  have hval : ∀ (j : Nat) t v, Try.f3.params[j]? = some t → args[j]? = some v → Value.okWide Try.prog W .any base t v := hval0
  have hW' := hW
  obtain ⟨p, q, hA0, hV, rfl, hfz, hnd⟩ := hW
  have hA : DataW.TrodAll enc Try.prog W 0 (fun _ => true) true Try.f3.params.toList args.toList ds p := hA0
  rw [Try.params3] at hA hval
  obtain ⟨v0, vs0, d0, ds0, p0, q0, hargs, rfl, rfl, h0, r0⟩ := trodAll_cons hA
  obtain ⟨v1, vs1, d1, ds1, p1, q1, rfl, rfl, rfl, h1, r1⟩ := trodAll_cons r0
  obtain ⟨v2, vs2, d2, ds2, p2, q2, rfl, rfl, rfl, h2, r2⟩ := trodAll_cons r1
  obtain ⟨rfl, rfl, rfl⟩ := trodAll_nil r2
  obtain rfl : args = #[v0, v1, v2] := by cases args; simp_all
  obtain ⟨rfl, rfl⟩ := trodVars_none hV
  have k0 := h0
  have lt0 : ∀ x ∈ p0, x.block < W.heap.size := by obtain ⟨m, hm⟩ := k0; exact DataW.trod_lt m _ _ _ hm
  obtain ⟨a0, rfl, rfl, rfl, w0⟩ := open_int Try.underlying2 (hval 0 2 v0 rfl rfl) h0
  have k1 := h1
  have lt1 : ∀ x ∈ p1, x.block < W.heap.size := by obtain ⟨m, hm⟩ := k1; exact DataW.trod_lt m _ _ _ hm
  obtain ⟨a1, rfl, rfl, rfl, w1⟩ := open_int Try.underlying2 (hval 1 2 v1 rfl rfl) h1
  have k2 := h2
  have lt2 : ∀ x ∈ p2, x.block < W.heap.size := by obtain ⟨m, hm⟩ := k2; exact DataW.trod_lt m _ _ _ hm
  obtain ⟨a2, rfl, rfl, rfl, w2⟩ := open_int Try.underlying2 (hval 2 2 v2 rfl rfl) h2
  clear hA0 hval0
  refine (walk a0 a1 a2 W w0 w1 w2).mono fun e W' ⟨he, bel⟩ => ?_
  subst he
  exact ⟨_, rfl, _, _, _, [], _, [], hW', trodAll_mk1 (shut_bool Try.underlying4 _), (trodAll_cons_mk (Below.trod laidOut (by kernel_rfl) (of_decide_eq_true (by kernel_rfl)) k0 bel lt0) (trodAll_cons_mk (Below.trod laidOut (by kernel_rfl) (of_decide_eq_true (by kernel_rfl)) k1 bel lt1) (trodAll_cons_mk (Below.trod laidOut (by kernel_rfl) (of_decide_eq_true (by kernel_rfl)) k2 bel lt2) trodAll_mk0))), rfl, bel.frame _, fun h => by cases h⟩

theorem over : Rows.fnExactWorldNewRow.holds Try.pinned (OpenSpec.ofChange Rows.fnExactWorldNewSpec) :=
  OpenClaim.holds_of_wide 3 Try.f3 rfl rfl rfl rfl rfl rfl rfl ⟨rfl, rfl, rfl, rfl, rfl⟩ rfl rfl rfl rfl rfl (by kernel_rfl) Try.func3 (by kernel_rfl)
    (of_decide_eq_true (by kernel_rfl)) (by unfold Func.isWrapper; first | (rw [if_pos (by decide +kernel)]; kernel_rfl) | (rw [if_neg (by decide +kernel)]; exact ⟨rfl, rfl⟩))
    (fun os started H enc _ => lifted os started H enc)

theorem proved : Rows.FnExactWorldNewSaid := over
end Go.Proofs.Ytdlegnbjcgceeaa.fnExactWorldNew
