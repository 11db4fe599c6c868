/- Wn -/
import Derived.Test.YtedhemllgpbheaaQ22
namespace Go.Proofs.Ytedhemllgpbheaa
open Go.RowKit

def wnB (t m y : Int) : Bool := nwB m y && decide (m ≤ 200) && inB t 0 3000
def wnV (t m y : Int) : Value := if wnB t m y = true then .tuple #[.agg #[.int .i64 t, .int .i64 m, .int .i64 (y * m), .int .i64 1000000000, .int .i64 1, .int .i64 0, .int .i64 0, .int .i64 0, .int .i64 0, .int .i64 0, .slice none 0 0, .slice none 0 0, .slice none 0 0, .slice none 0 0, .slice none 0 0], .bool true] else .tuple #[.agg #[.int .i64 0, .int .i64 0, .int .i64 0, .int .i64 0, .int .i64 0, .int .i64 0, .int .i64 0, .int .i64 0, .int .i64 0, .int .i64 0, .slice none 0 0, .slice none 0 0, .slice none 0 0, .slice none 0 0, .slice none 0 0], .bool false]
theorem wn_form (t m y : Int) : ∃ (T R0 R1 R2 R3 R4 R5 R6 : Int) (b : Bool), wnV t m y = .tuple #[.agg #[.int .i64 T, .int .i64 R0, .int .i64 R1, .int .i64 R2, .int .i64 R3, .int .i64 R4, .int .i64 R5, .int .i64 R6, .int .i64 0, .int .i64 0, .slice none 0 0, .slice none 0 0, .slice none 0 0, .slice none 0 0, .slice none 0 0], .bool b] := by
  unfold wnV
  split
  · exact ⟨_, _, _, _, _, _, _, _, _, rfl⟩
  · exact ⟨_, _, _, _, _, _, _, _, _, rfl⟩
theorem nw_no {m y : Int} (h : nwB m y = false) : nwV m y = .tuple #[.agg #[.int .i64 0, .int .i64 0, .int .i64 0, .int .i64 0, .int .i64 0, .int .i64 0, .int .i64 0], .bool false] := by
  unfold nwV
  rw [h, show (inB m 1 10000 && inB y 1 10) = false from h]
  rfl
theorem nw_yes {m y : Int} (h : nwB m y = true) : nwV m y = .tuple #[.agg #[.int .i64 m, .int .i64 (y * m), .int .i64 1000000000, .int .i64 1, .int .i64 0, .int .i64 0, .int .i64 0], .bool true] := by
  unfold nwV
  rw [h, show (inB m 1 10000 && inB y 1 10) = true from h]
  rfl

set_option maxRecDepth 100000 in
set_option maxHeartbeats 2000000 in
theorem wn_newS (t m y : Int) (W : World) : Calls Try.prog 22 #[.int .i64 t, .int .i64 m, .int .i64 y] W fun e w' => e = .returned (wnV t m y) ∧ W.grownBy w' none := by
  unfold wnV wnB
  cases h : nwB m y
  · simp only [Bool.false_and, Bool.false_eq_true, if_false]
    have hi := rn_newS m y
    simp only [nw_no h] at hi
    have HI := Lib.hid hi
    clear hi h
    go_enter Try.func22, Try.ntmps22
    go_wp2_with fail
    refine (HI.out _).mono ?_
    rintro e w1 ⟨rfl, hg⟩
    have HG := Lib.hid (grownBy_trans (World.grownBy_alloc W (.cells #[.int .i64 0, .int .i64 0, .int .i64 0, .int .i64 0, .int .i64 0, .int .i64 0, .int .i64 0, .int .i64 0, .int .i64 0, .int .i64 0, .slice none 0 0, .slice none 0 0, .slice none 0 0, .slice none 0 0, .slice none 0 0] 53) none) hg)
    have HR := Lib.hid ((Bx.new W 53 #[.int .i64 0, .int .i64 0, .int .i64 0, .int .i64 0, .int .i64 0, .int .i64 0, .int .i64 0, .int .i64 0, .int .i64 0, .int .i64 0, .slice none 0 0, .slice none 0 0, .slice none 0 0, .slice none 0 0, .slice none 0 0]).keep hg)
    have lr := HR.out.lt
    clear hg
    have r0 := HR.out.c 0 (x := .int .i64 0) rfl
    have r1 := HR.out.c 1 (x := .int .i64 0) rfl
    have r2 := HR.out.c 2 (x := .int .i64 0) rfl
    have r3 := HR.out.c 3 (x := .int .i64 0) rfl
    have r4 := HR.out.c 4 (x := .int .i64 0) rfl
    have r5 := HR.out.c 5 (x := .int .i64 0) rfl
    have r6 := HR.out.c 6 (x := .int .i64 0) rfl
    have r7 := HR.out.c 7 (x := .int .i64 0) rfl
    have r8 := HR.out.c 8 (x := .int .i64 0) rfl
    have r9 := HR.out.c 9 (x := .int .i64 0) rfl
    have r10 := HR.out.c 10 (x := .slice none 0 0) rfl
    have r11 := HR.out.c 11 (x := .slice none 0 0) rfl
    have r12 := HR.out.c 12 (x := .slice none 0 0) rfl
    have r13 := HR.out.c 13 (x := .slice none 0 0) rfl
    have r14 := HR.out.c 14 (x := .slice none 0 0) rfl
    have z0 := HR.out.f 0
    have z1 := HR.out.f 1
    have z2 := HR.out.f 2
    have z3 := HR.out.f 3
    have z4 := HR.out.f 4
    have z5 := HR.out.f 5
    have z6 := HR.out.f 6
    have z7 := HR.out.f 7
    have z8 := HR.out.f 8
    have z9 := HR.out.f 9
    have z10 := HR.out.f 10
    have z11 := HR.out.f 11
    have z12 := HR.out.f 12
    have z13 := HR.out.f 13
    have z14 := HR.out.f 14
    go_wp2_with (go_at_call 21; refine (in_any _ _ _ _).mono ?_; rintro e w2 ⟨rfl, rfl⟩)
    exact bodyPost_ret (v := .tuple #[.agg #[.int .i64 0, .int .i64 0, .int .i64 0, .int .i64 0, .int .i64 0, .int .i64 0, .int .i64 0, .int .i64 0, .int .i64 0, .int .i64 0, .slice none 0 0, .slice none 0 0, .slice none 0 0, .slice none 0 0, .slice none 0 0], .bool false]) (by simp [results, Try.results22, go_sem, lr, r0, r1, r2, r3, r4, r5, r6, r7, r8, r9, r10, r11, r12, r13, r14]) rfl ⟨rfl, by repeat (first | with_reducible refine gS ?_ (by first | omega | (simp; omega)) _ _ | with_reducible refine gA ?_ _ | with_reducible refine gD ?_ _ | with_reducible refine gd ?_ | with_reducible exact HG.out | with_reducible exact World.grownBy.refl _ _)⟩
  · have h := h
    have hi := rn_newS m y
    simp only [nw_yes h] at hi
    have HI := Lib.hid hi
    clear hi h
    by_cases h2 : m ≤ 200
    · cases h3 : inB t 0 3000
      · simp only [Bool.and_false, Bool.false_eq_true, if_false]
        go_enter Try.func22, Try.ntmps22
        go_wp2_with fail
        refine (HI.out _).mono ?_
        rintro e w1 ⟨rfl, hg⟩
        have HG := Lib.hid (grownBy_trans (World.grownBy_alloc W (.cells #[.int .i64 0, .int .i64 0, .int .i64 0, .int .i64 0, .int .i64 0, .int .i64 0, .int .i64 0, .int .i64 0, .int .i64 0, .int .i64 0, .slice none 0 0, .slice none 0 0, .slice none 0 0, .slice none 0 0, .slice none 0 0] 53) none) hg)
        have HR := Lib.hid ((Bx.new W 53 #[.int .i64 0, .int .i64 0, .int .i64 0, .int .i64 0, .int .i64 0, .int .i64 0, .int .i64 0, .int .i64 0, .int .i64 0, .int .i64 0, .slice none 0 0, .slice none 0 0, .slice none 0 0, .slice none 0 0, .slice none 0 0]).keep hg)
        have lr := HR.out.lt
        clear hg
        have r0 := HR.out.c 0 (x := .int .i64 0) rfl
        have r1 := HR.out.c 1 (x := .int .i64 0) rfl
        have r2 := HR.out.c 2 (x := .int .i64 0) rfl
        have r3 := HR.out.c 3 (x := .int .i64 0) rfl
        have r4 := HR.out.c 4 (x := .int .i64 0) rfl
        have r5 := HR.out.c 5 (x := .int .i64 0) rfl
        have r6 := HR.out.c 6 (x := .int .i64 0) rfl
        have r7 := HR.out.c 7 (x := .int .i64 0) rfl
        have r8 := HR.out.c 8 (x := .int .i64 0) rfl
        have r9 := HR.out.c 9 (x := .int .i64 0) rfl
        have r10 := HR.out.c 10 (x := .slice none 0 0) rfl
        have r11 := HR.out.c 11 (x := .slice none 0 0) rfl
        have r12 := HR.out.c 12 (x := .slice none 0 0) rfl
        have r13 := HR.out.c 13 (x := .slice none 0 0) rfl
        have r14 := HR.out.c 14 (x := .slice none 0 0) rfl
        have z0 := HR.out.f 0
        have z1 := HR.out.f 1
        have z2 := HR.out.f 2
        have z3 := HR.out.f 3
        have z4 := HR.out.f 4
        have z5 := HR.out.f 5
        have z6 := HR.out.f 6
        have z7 := HR.out.f 7
        have z8 := HR.out.f 8
        have z9 := HR.out.f 9
        have z10 := HR.out.f 10
        have z11 := HR.out.f 11
        have z12 := HR.out.f 12
        have z13 := HR.out.f 13
        have z14 := HR.out.f 14
        go_wp2_with (go_at_call 21; refine (in_any _ _ _ _).mono ?_; rintro e w2 ⟨rfl, rfl⟩)
        try simp only [h3]
        try go_wp2_with fail
        exact bodyPost_ret (v := .tuple #[.agg #[.int .i64 0, .int .i64 0, .int .i64 0, .int .i64 0, .int .i64 0, .int .i64 0, .int .i64 0, .int .i64 0, .int .i64 0, .int .i64 0, .slice none 0 0, .slice none 0 0, .slice none 0 0, .slice none 0 0, .slice none 0 0], .bool false]) (by simp [results, Try.results22, go_sem, lr, r0, r1, r2, r3, r4, r5, r6, r7, r8, r9, r10, r11, r12, r13, r14]) rfl ⟨rfl, by repeat (first | with_reducible refine gS ?_ (by first | omega | (simp; omega)) _ _ | with_reducible refine gA ?_ _ | with_reducible refine gD ?_ _ | with_reducible refine gd ?_ | with_reducible exact HG.out | with_reducible exact World.grownBy.refl _ _)⟩
      · simp only [decide_eq_true h2, Bool.and_true, if_true]
        go_enter Try.func22, Try.ntmps22
        go_wp2_with fail
        refine (HI.out _).mono ?_
        rintro e w1 ⟨rfl, hg⟩
        have HG := Lib.hid (grownBy_trans (World.grownBy_alloc W (.cells #[.int .i64 0, .int .i64 0, .int .i64 0, .int .i64 0, .int .i64 0, .int .i64 0, .int .i64 0, .int .i64 0, .int .i64 0, .int .i64 0, .slice none 0 0, .slice none 0 0, .slice none 0 0, .slice none 0 0, .slice none 0 0] 53) none) hg)
        have HR := Lib.hid ((Bx.new W 53 #[.int .i64 0, .int .i64 0, .int .i64 0, .int .i64 0, .int .i64 0, .int .i64 0, .int .i64 0, .int .i64 0, .int .i64 0, .int .i64 0, .slice none 0 0, .slice none 0 0, .slice none 0 0, .slice none 0 0, .slice none 0 0]).keep hg)
        have lr := HR.out.lt
        clear hg
        have r0 := HR.out.c 0 (x := .int .i64 0) rfl
        have r1 := HR.out.c 1 (x := .int .i64 0) rfl
        have r2 := HR.out.c 2 (x := .int .i64 0) rfl
        have r3 := HR.out.c 3 (x := .int .i64 0) rfl
        have r4 := HR.out.c 4 (x := .int .i64 0) rfl
        have r5 := HR.out.c 5 (x := .int .i64 0) rfl
        have r6 := HR.out.c 6 (x := .int .i64 0) rfl
        have r7 := HR.out.c 7 (x := .int .i64 0) rfl
        have r8 := HR.out.c 8 (x := .int .i64 0) rfl
        have r9 := HR.out.c 9 (x := .int .i64 0) rfl
        have r10 := HR.out.c 10 (x := .slice none 0 0) rfl
        have r11 := HR.out.c 11 (x := .slice none 0 0) rfl
        have r12 := HR.out.c 12 (x := .slice none 0 0) rfl
        have r13 := HR.out.c 13 (x := .slice none 0 0) rfl
        have r14 := HR.out.c 14 (x := .slice none 0 0) rfl
        have z0 := HR.out.f 0
        have z1 := HR.out.f 1
        have z2 := HR.out.f 2
        have z3 := HR.out.f 3
        have z4 := HR.out.f 4
        have z5 := HR.out.f 5
        have z6 := HR.out.f 6
        have z7 := HR.out.f 7
        have z8 := HR.out.f 8
        have z9 := HR.out.f 9
        have z10 := HR.out.f 10
        have z11 := HR.out.f 11
        have z12 := HR.out.f 12
        have z13 := HR.out.f 13
        have z14 := HR.out.f 14
        go_wp2_with (go_at_call 21; refine (in_any _ _ _ _).mono ?_; rintro e w2 ⟨rfl, rfl⟩)
        try simp only [h3]
        try go_wp2_with fail
        exact bodyPost_ret (v := .tuple #[.agg #[.int .i64 t, .int .i64 m, .int .i64 (y * m), .int .i64 1000000000, .int .i64 1, .int .i64 0, .int .i64 0, .int .i64 0, .int .i64 0, .int .i64 0, .slice none 0 0, .slice none 0 0, .slice none 0 0, .slice none 0 0, .slice none 0 0], .bool true]) (by simp [results, Try.results22, go_sem, lr, r0, r1, r2, r3, r4, r5, r6, r7, r8, r9, r10, r11, r12, r13, r14]) rfl ⟨rfl, by repeat (first | with_reducible refine gS ?_ (by first | omega | (simp; omega)) _ _ | with_reducible refine gA ?_ _ | with_reducible refine gD ?_ _ | with_reducible refine gd ?_ | with_reducible exact HG.out | with_reducible exact World.grownBy.refl _ _)⟩
    · simp only [decide_eq_false h2, Bool.and_false, Bool.false_and, Bool.false_eq_true, if_false]
      cases h3 : inB t 0 3000
      all_goals
        go_enter Try.func22, Try.ntmps22
        go_wp2_with fail
        refine (HI.out _).mono ?_
        rintro e w1 ⟨rfl, hg⟩
        have HG := Lib.hid (grownBy_trans (World.grownBy_alloc W (.cells #[.int .i64 0, .int .i64 0, .int .i64 0, .int .i64 0, .int .i64 0, .int .i64 0, .int .i64 0, .int .i64 0, .int .i64 0, .int .i64 0, .slice none 0 0, .slice none 0 0, .slice none 0 0, .slice none 0 0, .slice none 0 0] 53) none) hg)
        have HR := Lib.hid ((Bx.new W 53 #[.int .i64 0, .int .i64 0, .int .i64 0, .int .i64 0, .int .i64 0, .int .i64 0, .int .i64 0, .int .i64 0, .int .i64 0, .int .i64 0, .slice none 0 0, .slice none 0 0, .slice none 0 0, .slice none 0 0, .slice none 0 0]).keep hg)
        have lr := HR.out.lt
        clear hg
        have r0 := HR.out.c 0 (x := .int .i64 0) rfl
        have r1 := HR.out.c 1 (x := .int .i64 0) rfl
        have r2 := HR.out.c 2 (x := .int .i64 0) rfl
        have r3 := HR.out.c 3 (x := .int .i64 0) rfl
        have r4 := HR.out.c 4 (x := .int .i64 0) rfl
        have r5 := HR.out.c 5 (x := .int .i64 0) rfl
        have r6 := HR.out.c 6 (x := .int .i64 0) rfl
        have r7 := HR.out.c 7 (x := .int .i64 0) rfl
        have r8 := HR.out.c 8 (x := .int .i64 0) rfl
        have r9 := HR.out.c 9 (x := .int .i64 0) rfl
        have r10 := HR.out.c 10 (x := .slice none 0 0) rfl
        have r11 := HR.out.c 11 (x := .slice none 0 0) rfl
        have r12 := HR.out.c 12 (x := .slice none 0 0) rfl
        have r13 := HR.out.c 13 (x := .slice none 0 0) rfl
        have r14 := HR.out.c 14 (x := .slice none 0 0) rfl
        have z0 := HR.out.f 0
        have z1 := HR.out.f 1
        have z2 := HR.out.f 2
        have z3 := HR.out.f 3
        have z4 := HR.out.f 4
        have z5 := HR.out.f 5
        have z6 := HR.out.f 6
        have z7 := HR.out.f 7
        have z8 := HR.out.f 8
        have z9 := HR.out.f 9
        have z10 := HR.out.f 10
        have z11 := HR.out.f 11
        have z12 := HR.out.f 12
        have z13 := HR.out.f 13
        have z14 := HR.out.f 14
        go_wp2_with (go_at_call 21; refine (in_any _ _ _ _).mono ?_; rintro e w2 ⟨rfl, rfl⟩)
        try simp only [h3]
        try go_wp2_with fail
        exact bodyPost_ret (v := .tuple #[.agg #[.int .i64 0, .int .i64 0, .int .i64 0, .int .i64 0, .int .i64 0, .int .i64 0, .int .i64 0, .int .i64 0, .int .i64 0, .int .i64 0, .slice none 0 0, .slice none 0 0, .slice none 0 0, .slice none 0 0, .slice none 0 0], .bool false]) (by simp [results, Try.results22, go_sem, lr, r0, r1, r2, r3, r4, r5, r6, r7, r8, r9, r10, r11, r12, r13, r14]) rfl ⟨rfl, by repeat (first | with_reducible refine gS ?_ (by first | omega | (simp; omega)) _ _ | with_reducible refine gA ?_ _ | with_reducible refine gD ?_ _ | with_reducible refine gd ?_ | with_reducible exact HG.out | with_reducible exact World.grownBy.refl _ _)⟩

end Go.Proofs.Ytedhemllgpbheaa

