/- Worlds: a new one, both; comparisons and marks of what has no rows. -/
import Derived.Test.YtdlegnbjcgceeaaRnX
namespace Go.Proofs.Ytdlegnbjcgceeaa
open Go.RowKit

def wnB (t m y : Int) : Bool := nwB m y && decide (m ≤ 200) && inB t 0 3000
def wnV (t m y : Int) : Value := if wnB t m y = true then .tuple #[.agg #[.int .i64 t, .int .i64 m, .int .i64 (y * m), .int .i64 1000000000, .int .i64 1, .int .i64 0, .int .i64 0, .int .i64 0, .int .i64 0, .int .i64 0, .slice none 0 0, .slice none 0 0, .slice none 0 0, .slice none 0 0, .slice none 0 0], .bool true] else .tuple #[.agg #[.int .i64 0, .int .i64 0, .int .i64 0, .int .i64 0, .int .i64 0, .int .i64 0, .int .i64 0, .int .i64 0, .int .i64 0, .int .i64 0, .slice none 0 0, .slice none 0 0, .slice none 0 0, .slice none 0 0, .slice none 0 0], .bool false]
theorem wn_form (t m y : Int) : ∃ (T R0 R1 R2 R3 R4 R5 R6 : Int) (b : Bool), wnV t m y = .tuple #[.agg #[.int .i64 T, .int .i64 R0, .int .i64 R1, .int .i64 R2, .int .i64 R3, .int .i64 R4, .int .i64 R5, .int .i64 R6, .int .i64 0, .int .i64 0, .slice none 0 0, .slice none 0 0, .slice none 0 0, .slice none 0 0, .slice none 0 0], .bool b] := by
  unfold wnV
  split
  · exact ⟨_, _, _, _, _, _, _, _, _, rfl⟩
  · exact ⟨_, _, _, _, _, _, _, _, _, rfl⟩
theorem nw_no {m y : Int} (h : nwB m y = false) : nwV m y = .tuple #[.agg #[.int .i64 0, .int .i64 0, .int .i64 0, .int .i64 0, .int .i64 0, .int .i64 0, .int .i64 0], .bool false] := by
  unfold nwV
  rw [h, show (inB m 1 10000 && inB y 1 10) = false from h]
  rfl
theorem nw_yes {m y : Int} (h : nwB m y = true) : nwV m y = .tuple #[.agg #[.int .i64 m, .int .i64 (y * m), .int .i64 1000000000, .int .i64 1, .int .i64 0, .int .i64 0, .int .i64 0], .bool true] := by
  unfold nwV
  rw [h, show (inB m 1 10000 && inB y 1 10) = true from h]
  rfl

set_option maxRecDepth 100000 in
theorem total_any (t : Int) (W : World) : Calls Try.prog 18 #[.int .i64 t] W fun e w' => e = .returned (.bool (inB t 0 3000)) ∧ W = w' := by
  unfold inB
  by_cases h1 : 0 ≤ t
  · by_cases h2 : t ≤ 3000
    · rw [decide_eq_true ⟨h1, h2⟩]
      go_enter Try.func18, Try.ntmps18
      go_wp2
      go_ret
      exact ⟨by first | rfl | simp [h2] | simp, rfl⟩
    · rw [decide_eq_false (by omega)]
      go_enter Try.func18, Try.ntmps18
      go_wp2
      go_ret
      exact ⟨by first | rfl | simp [h2] | simp, rfl⟩
  · rw [decide_eq_false (by omega)]
    go_enter Try.func18, Try.ntmps18
    go_wp2
    go_ret
    exact ⟨by first | rfl | simp [h1] | simp, rfl⟩

set_option maxRecDepth 100000 in
set_option maxHeartbeats 2000000 in
theorem wn_newI (t m y : Int) (W : World) : Calls Try.prog 6 #[.int .i64 t, .int .i64 m, .int .i64 y] W fun e w' => e = .returned (wnV t m y) ∧ W.grownBy w' none := by
  unfold wnV wnB
  cases h : nwB m y
  · simp only [Bool.false_and, Bool.false_eq_true, if_false]
    have hi := rn_newI m y
    simp only [nw_no h] at hi
    have HI := Lib.hid hi
    clear hi h
    go_enter Try.func6, Try.ntmps6
    go_wp2_with fail
    refine (HI.out _).mono ?_
    rintro e w1 ⟨rfl, hg⟩
    have HG := Lib.hid (grownBy_trans (World.grownBy_alloc W (.cells #[.int .i64 0, .int .i64 0, .int .i64 0, .int .i64 0, .int .i64 0, .int .i64 0, .int .i64 0, .int .i64 0, .int .i64 0, .int .i64 0, .slice none 0 0, .slice none 0 0, .slice none 0 0, .slice none 0 0, .slice none 0 0] 30) none) hg)
    have HR := Lib.hid ((Bx.new W 30 #[.int .i64 0, .int .i64 0, .int .i64 0, .int .i64 0, .int .i64 0, .int .i64 0, .int .i64 0, .int .i64 0, .int .i64 0, .int .i64 0, .slice none 0 0, .slice none 0 0, .slice none 0 0, .slice none 0 0, .slice none 0 0]).keep hg)
    have lr := HR.out.lt
    clear hg
    have r0 := HR.out.c 0 (x := .int .i64 0) rfl
    have r1 := HR.out.c 1 (x := .int .i64 0) rfl
    have r2 := HR.out.c 2 (x := .int .i64 0) rfl
    have r3 := HR.out.c 3 (x := .int .i64 0) rfl
    have r4 := HR.out.c 4 (x := .int .i64 0) rfl
    have r5 := HR.out.c 5 (x := .int .i64 0) rfl
    have r6 := HR.out.c 6 (x := .int .i64 0) rfl
    have r7 := HR.out.c 7 (x := .int .i64 0) rfl
    have r8 := HR.out.c 8 (x := .int .i64 0) rfl
    have r9 := HR.out.c 9 (x := .int .i64 0) rfl
    have r10 := HR.out.c 10 (x := .slice none 0 0) rfl
    have r11 := HR.out.c 11 (x := .slice none 0 0) rfl
    have r12 := HR.out.c 12 (x := .slice none 0 0) rfl
    have r13 := HR.out.c 13 (x := .slice none 0 0) rfl
    have r14 := HR.out.c 14 (x := .slice none 0 0) rfl
    have z0 := HR.out.f 0
    have z1 := HR.out.f 1
    have z2 := HR.out.f 2
    have z3 := HR.out.f 3
    have z4 := HR.out.f 4
    have z5 := HR.out.f 5
    have z6 := HR.out.f 6
    have z7 := HR.out.f 7
    have z8 := HR.out.f 8
    have z9 := HR.out.f 9
    have z10 := HR.out.f 10
    have z11 := HR.out.f 11
    have z12 := HR.out.f 12
    have z13 := HR.out.f 13
    have z14 := HR.out.f 14
    go_wp2_with (go_at_call 18; refine (total_any _ _).mono ?_; rintro e w2 ⟨rfl, rfl⟩)
    exact bodyPost_ret (v := .tuple #[.agg #[.int .i64 0, .int .i64 0, .int .i64 0, .int .i64 0, .int .i64 0, .int .i64 0, .int .i64 0, .int .i64 0, .int .i64 0, .int .i64 0, .slice none 0 0, .slice none 0 0, .slice none 0 0, .slice none 0 0, .slice none 0 0], .bool false]) (by simp [results, Try.results6, go_sem, lr, r0, r1, r2, r3, r4, r5, r6, r7, r8, r9, r10, r11, r12, r13, r14]) rfl ⟨rfl, by repeat (first | with_reducible refine gS ?_ (by first | omega | (simp; omega)) _ _ | with_reducible refine gA ?_ _ | with_reducible refine gD ?_ _ | with_reducible refine gd ?_ | with_reducible exact HG.out | with_reducible exact World.grownBy.refl _ _)⟩
  · have h := h
    have hi := rn_newI m y
    simp only [nw_yes h] at hi
    have HI := Lib.hid hi
    clear hi h
    by_cases h2 : m ≤ 200
    · cases h3 : inB t 0 3000
      · simp only [Bool.and_false, Bool.false_eq_true, if_false]
        go_enter Try.func6, Try.ntmps6
        go_wp2_with fail
        refine (HI.out _).mono ?_
        rintro e w1 ⟨rfl, hg⟩
        have HG := Lib.hid (grownBy_trans (World.grownBy_alloc W (.cells #[.int .i64 0, .int .i64 0, .int .i64 0, .int .i64 0, .int .i64 0, .int .i64 0, .int .i64 0, .int .i64 0, .int .i64 0, .int .i64 0, .slice none 0 0, .slice none 0 0, .slice none 0 0, .slice none 0 0, .slice none 0 0] 30) none) hg)
        have HR := Lib.hid ((Bx.new W 30 #[.int .i64 0, .int .i64 0, .int .i64 0, .int .i64 0, .int .i64 0, .int .i64 0, .int .i64 0, .int .i64 0, .int .i64 0, .int .i64 0, .slice none 0 0, .slice none 0 0, .slice none 0 0, .slice none 0 0, .slice none 0 0]).keep hg)
        have lr := HR.out.lt
        clear hg
        have r0 := HR.out.c 0 (x := .int .i64 0) rfl
        have r1 := HR.out.c 1 (x := .int .i64 0) rfl
        have r2 := HR.out.c 2 (x := .int .i64 0) rfl
        have r3 := HR.out.c 3 (x := .int .i64 0) rfl
        have r4 := HR.out.c 4 (x := .int .i64 0) rfl
        have r5 := HR.out.c 5 (x := .int .i64 0) rfl
        have r6 := HR.out.c 6 (x := .int .i64 0) rfl
        have r7 := HR.out.c 7 (x := .int .i64 0) rfl
        have r8 := HR.out.c 8 (x := .int .i64 0) rfl
        have r9 := HR.out.c 9 (x := .int .i64 0) rfl
        have r10 := HR.out.c 10 (x := .slice none 0 0) rfl
        have r11 := HR.out.c 11 (x := .slice none 0 0) rfl
        have r12 := HR.out.c 12 (x := .slice none 0 0) rfl
        have r13 := HR.out.c 13 (x := .slice none 0 0) rfl
        have r14 := HR.out.c 14 (x := .slice none 0 0) rfl
        have z0 := HR.out.f 0
        have z1 := HR.out.f 1
        have z2 := HR.out.f 2
        have z3 := HR.out.f 3
        have z4 := HR.out.f 4
        have z5 := HR.out.f 5
        have z6 := HR.out.f 6
        have z7 := HR.out.f 7
        have z8 := HR.out.f 8
        have z9 := HR.out.f 9
        have z10 := HR.out.f 10
        have z11 := HR.out.f 11
        have z12 := HR.out.f 12
        have z13 := HR.out.f 13
        have z14 := HR.out.f 14
        go_wp2_with (go_at_call 18; refine (total_any _ _).mono ?_; rintro e w2 ⟨rfl, rfl⟩)
        try simp only [h3]
        try go_wp2_with fail
        exact bodyPost_ret (v := .tuple #[.agg #[.int .i64 0, .int .i64 0, .int .i64 0, .int .i64 0, .int .i64 0, .int .i64 0, .int .i64 0, .int .i64 0, .int .i64 0, .int .i64 0, .slice none 0 0, .slice none 0 0, .slice none 0 0, .slice none 0 0, .slice none 0 0], .bool false]) (by simp [results, Try.results6, go_sem, lr, r0, r1, r2, r3, r4, r5, r6, r7, r8, r9, r10, r11, r12, r13, r14]) rfl ⟨rfl, by repeat (first | with_reducible refine gS ?_ (by first | omega | (simp; omega)) _ _ | with_reducible refine gA ?_ _ | with_reducible refine gD ?_ _ | with_reducible refine gd ?_ | with_reducible exact HG.out | with_reducible exact World.grownBy.refl _ _)⟩
      · simp only [decide_eq_true h2, Bool.and_true, if_true]
        go_enter Try.func6, Try.ntmps6
        go_wp2_with fail
        refine (HI.out _).mono ?_
        rintro e w1 ⟨rfl, hg⟩
        have HG := Lib.hid (grownBy_trans (World.grownBy_alloc W (.cells #[.int .i64 0, .int .i64 0, .int .i64 0, .int .i64 0, .int .i64 0, .int .i64 0, .int .i64 0, .int .i64 0, .int .i64 0, .int .i64 0, .slice none 0 0, .slice none 0 0, .slice none 0 0, .slice none 0 0, .slice none 0 0] 30) none) hg)
        have HR := Lib.hid ((Bx.new W 30 #[.int .i64 0, .int .i64 0, .int .i64 0, .int .i64 0, .int .i64 0, .int .i64 0, .int .i64 0, .int .i64 0, .int .i64 0, .int .i64 0, .slice none 0 0, .slice none 0 0, .slice none 0 0, .slice none 0 0, .slice none 0 0]).keep hg)
        have lr := HR.out.lt
        clear hg
        have r0 := HR.out.c 0 (x := .int .i64 0) rfl
        have r1 := HR.out.c 1 (x := .int .i64 0) rfl
        have r2 := HR.out.c 2 (x := .int .i64 0) rfl
        have r3 := HR.out.c 3 (x := .int .i64 0) rfl
        have r4 := HR.out.c 4 (x := .int .i64 0) rfl
        have r5 := HR.out.c 5 (x := .int .i64 0) rfl
        have r6 := HR.out.c 6 (x := .int .i64 0) rfl
        have r7 := HR.out.c 7 (x := .int .i64 0) rfl
        have r8 := HR.out.c 8 (x := .int .i64 0) rfl
        have r9 := HR.out.c 9 (x := .int .i64 0) rfl
        have r10 := HR.out.c 10 (x := .slice none 0 0) rfl
        have r11 := HR.out.c 11 (x := .slice none 0 0) rfl
        have r12 := HR.out.c 12 (x := .slice none 0 0) rfl
        have r13 := HR.out.c 13 (x := .slice none 0 0) rfl
        have r14 := HR.out.c 14 (x := .slice none 0 0) rfl
        have z0 := HR.out.f 0
        have z1 := HR.out.f 1
        have z2 := HR.out.f 2
        have z3 := HR.out.f 3
        have z4 := HR.out.f 4
        have z5 := HR.out.f 5
        have z6 := HR.out.f 6
        have z7 := HR.out.f 7
        have z8 := HR.out.f 8
        have z9 := HR.out.f 9
        have z10 := HR.out.f 10
        have z11 := HR.out.f 11
        have z12 := HR.out.f 12
        have z13 := HR.out.f 13
        have z14 := HR.out.f 14
        go_wp2_with (go_at_call 18; refine (total_any _ _).mono ?_; rintro e w2 ⟨rfl, rfl⟩)
        try simp only [h3]
        try go_wp2_with fail
        exact bodyPost_ret (v := .tuple #[.agg #[.int .i64 t, .int .i64 m, .int .i64 (y * m), .int .i64 1000000000, .int .i64 1, .int .i64 0, .int .i64 0, .int .i64 0, .int .i64 0, .int .i64 0, .slice none 0 0, .slice none 0 0, .slice none 0 0, .slice none 0 0, .slice none 0 0], .bool true]) (by simp [results, Try.results6, go_sem, lr, r0, r1, r2, r3, r4, r5, r6, r7, r8, r9, r10, r11, r12, r13, r14]) rfl ⟨rfl, by repeat (first | with_reducible refine gS ?_ (by first | omega | (simp; omega)) _ _ | with_reducible refine gA ?_ _ | with_reducible refine gD ?_ _ | with_reducible refine gd ?_ | with_reducible exact HG.out | with_reducible exact World.grownBy.refl _ _)⟩
    · simp only [decide_eq_false h2, Bool.and_false, Bool.false_and, Bool.false_eq_true, if_false]
      cases h3 : inB t 0 3000
      all_goals
        go_enter Try.func6, Try.ntmps6
        go_wp2_with fail
        refine (HI.out _).mono ?_
        rintro e w1 ⟨rfl, hg⟩
        have HG := Lib.hid (grownBy_trans (World.grownBy_alloc W (.cells #[.int .i64 0, .int .i64 0, .int .i64 0, .int .i64 0, .int .i64 0, .int .i64 0, .int .i64 0, .int .i64 0, .int .i64 0, .int .i64 0, .slice none 0 0, .slice none 0 0, .slice none 0 0, .slice none 0 0, .slice none 0 0] 30) none) hg)
        have HR := Lib.hid ((Bx.new W 30 #[.int .i64 0, .int .i64 0, .int .i64 0, .int .i64 0, .int .i64 0, .int .i64 0, .int .i64 0, .int .i64 0, .int .i64 0, .int .i64 0, .slice none 0 0, .slice none 0 0, .slice none 0 0, .slice none 0 0, .slice none 0 0]).keep hg)
        have lr := HR.out.lt
        clear hg
        have r0 := HR.out.c 0 (x := .int .i64 0) rfl
        have r1 := HR.out.c 1 (x := .int .i64 0) rfl
        have r2 := HR.out.c 2 (x := .int .i64 0) rfl
        have r3 := HR.out.c 3 (x := .int .i64 0) rfl
        have r4 := HR.out.c 4 (x := .int .i64 0) rfl
        have r5 := HR.out.c 5 (x := .int .i64 0) rfl
        have r6 := HR.out.c 6 (x := .int .i64 0) rfl
        have r7 := HR.out.c 7 (x := .int .i64 0) rfl
        have r8 := HR.out.c 8 (x := .int .i64 0) rfl
        have r9 := HR.out.c 9 (x := .int .i64 0) rfl
        have r10 := HR.out.c 10 (x := .slice none 0 0) rfl
        have r11 := HR.out.c 11 (x := .slice none 0 0) rfl
        have r12 := HR.out.c 12 (x := .slice none 0 0) rfl
        have r13 := HR.out.c 13 (x := .slice none 0 0) rfl
        have r14 := HR.out.c 14 (x := .slice none 0 0) rfl
        have z0 := HR.out.f 0
        have z1 := HR.out.f 1
        have z2 := HR.out.f 2
        have z3 := HR.out.f 3
        have z4 := HR.out.f 4
        have z5 := HR.out.f 5
        have z6 := HR.out.f 6
        have z7 := HR.out.f 7
        have z8 := HR.out.f 8
        have z9 := HR.out.f 9
        have z10 := HR.out.f 10
        have z11 := HR.out.f 11
        have z12 := HR.out.f 12
        have z13 := HR.out.f 13
        have z14 := HR.out.f 14
        go_wp2_with (go_at_call 18; refine (total_any _ _).mono ?_; rintro e w2 ⟨rfl, rfl⟩)
        try simp only [h3]
        try go_wp2_with fail
        exact bodyPost_ret (v := .tuple #[.agg #[.int .i64 0, .int .i64 0, .int .i64 0, .int .i64 0, .int .i64 0, .int .i64 0, .int .i64 0, .int .i64 0, .int .i64 0, .int .i64 0, .slice none 0 0, .slice none 0 0, .slice none 0 0, .slice none 0 0, .slice none 0 0], .bool false]) (by simp [results, Try.results6, go_sem, lr, r0, r1, r2, r3, r4, r5, r6, r7, r8, r9, r10, r11, r12, r13, r14]) rfl ⟨rfl, by repeat (first | with_reducible refine gS ?_ (by first | omega | (simp; omega)) _ _ | with_reducible refine gA ?_ _ | with_reducible refine gD ?_ _ | with_reducible refine gd ?_ | with_reducible exact HG.out | with_reducible exact World.grownBy.refl _ _)⟩

set_option maxRecDepth 100000 in
set_option maxHeartbeats 2000000 in
theorem wn_newS (t m y : Int) (W : World) : Calls Try.prog 5 #[.int .i64 t, .int .i64 m, .int .i64 y] W fun e w' => e = .returned (wnV t m y) ∧ W.grownBy w' none := by
  unfold wnV wnB
  cases h : nwB m y
  · simp only [Bool.false_and, Bool.false_eq_true, if_false]
    have hi := rn_newS m y
    simp only [nw_no h] at hi
    have HI := Lib.hid hi
    clear hi h
    go_enter Try.func5, Try.ntmps5
    go_wp2_with fail
    refine (HI.out _).mono ?_
    rintro e w1 ⟨rfl, hg⟩
    have HG := Lib.hid (grownBy_trans (World.grownBy_alloc W (.cells #[.int .i64 0, .int .i64 0, .int .i64 0, .int .i64 0, .int .i64 0, .int .i64 0, .int .i64 0, .int .i64 0, .int .i64 0, .int .i64 0, .slice none 0 0, .slice none 0 0, .slice none 0 0, .slice none 0 0, .slice none 0 0] 30) none) hg)
    have HR := Lib.hid ((Bx.new W 30 #[.int .i64 0, .int .i64 0, .int .i64 0, .int .i64 0, .int .i64 0, .int .i64 0, .int .i64 0, .int .i64 0, .int .i64 0, .int .i64 0, .slice none 0 0, .slice none 0 0, .slice none 0 0, .slice none 0 0, .slice none 0 0]).keep hg)
    have lr := HR.out.lt
    clear hg
    have r0 := HR.out.c 0 (x := .int .i64 0) rfl
    have r1 := HR.out.c 1 (x := .int .i64 0) rfl
    have r2 := HR.out.c 2 (x := .int .i64 0) rfl
    have r3 := HR.out.c 3 (x := .int .i64 0) rfl
    have r4 := HR.out.c 4 (x := .int .i64 0) rfl
    have r5 := HR.out.c 5 (x := .int .i64 0) rfl
    have r6 := HR.out.c 6 (x := .int .i64 0) rfl
    have r7 := HR.out.c 7 (x := .int .i64 0) rfl
    have r8 := HR.out.c 8 (x := .int .i64 0) rfl
    have r9 := HR.out.c 9 (x := .int .i64 0) rfl
    have r10 := HR.out.c 10 (x := .slice none 0 0) rfl
    have r11 := HR.out.c 11 (x := .slice none 0 0) rfl
    have r12 := HR.out.c 12 (x := .slice none 0 0) rfl
    have r13 := HR.out.c 13 (x := .slice none 0 0) rfl
    have r14 := HR.out.c 14 (x := .slice none 0 0) rfl
    have z0 := HR.out.f 0
    have z1 := HR.out.f 1
    have z2 := HR.out.f 2
    have z3 := HR.out.f 3
    have z4 := HR.out.f 4
    have z5 := HR.out.f 5
    have z6 := HR.out.f 6
    have z7 := HR.out.f 7
    have z8 := HR.out.f 8
    have z9 := HR.out.f 9
    have z10 := HR.out.f 10
    have z11 := HR.out.f 11
    have z12 := HR.out.f 12
    have z13 := HR.out.f 13
    have z14 := HR.out.f 14
    go_wp2_with (go_at_call 16; refine (in_any _ _ _ _).mono ?_; rintro e w2 ⟨rfl, rfl⟩)
    exact bodyPost_ret (v := .tuple #[.agg #[.int .i64 0, .int .i64 0, .int .i64 0, .int .i64 0, .int .i64 0, .int .i64 0, .int .i64 0, .int .i64 0, .int .i64 0, .int .i64 0, .slice none 0 0, .slice none 0 0, .slice none 0 0, .slice none 0 0, .slice none 0 0], .bool false]) (by simp [results, Try.results5, go_sem, lr, r0, r1, r2, r3, r4, r5, r6, r7, r8, r9, r10, r11, r12, r13, r14]) rfl ⟨rfl, by repeat (first | with_reducible refine gS ?_ (by first | omega | (simp; omega)) _ _ | with_reducible refine gA ?_ _ | with_reducible refine gD ?_ _ | with_reducible refine gd ?_ | with_reducible exact HG.out | with_reducible exact World.grownBy.refl _ _)⟩
  · have h := h
    have hi := rn_newS m y
    simp only [nw_yes h] at hi
    have HI := Lib.hid hi
    clear hi h
    by_cases h2 : m ≤ 200
    · cases h3 : inB t 0 3000
      · simp only [Bool.and_false, Bool.false_eq_true, if_false]
        go_enter Try.func5, Try.ntmps5
        go_wp2_with fail
        refine (HI.out _).mono ?_
        rintro e w1 ⟨rfl, hg⟩
        have HG := Lib.hid (grownBy_trans (World.grownBy_alloc W (.cells #[.int .i64 0, .int .i64 0, .int .i64 0, .int .i64 0, .int .i64 0, .int .i64 0, .int .i64 0, .int .i64 0, .int .i64 0, .int .i64 0, .slice none 0 0, .slice none 0 0, .slice none 0 0, .slice none 0 0, .slice none 0 0] 30) none) hg)
        have HR := Lib.hid ((Bx.new W 30 #[.int .i64 0, .int .i64 0, .int .i64 0, .int .i64 0, .int .i64 0, .int .i64 0, .int .i64 0, .int .i64 0, .int .i64 0, .int .i64 0, .slice none 0 0, .slice none 0 0, .slice none 0 0, .slice none 0 0, .slice none 0 0]).keep hg)
        have lr := HR.out.lt
        clear hg
        have r0 := HR.out.c 0 (x := .int .i64 0) rfl
        have r1 := HR.out.c 1 (x := .int .i64 0) rfl
        have r2 := HR.out.c 2 (x := .int .i64 0) rfl
        have r3 := HR.out.c 3 (x := .int .i64 0) rfl
        have r4 := HR.out.c 4 (x := .int .i64 0) rfl
        have r5 := HR.out.c 5 (x := .int .i64 0) rfl
        have r6 := HR.out.c 6 (x := .int .i64 0) rfl
        have r7 := HR.out.c 7 (x := .int .i64 0) rfl
        have r8 := HR.out.c 8 (x := .int .i64 0) rfl
        have r9 := HR.out.c 9 (x := .int .i64 0) rfl
        have r10 := HR.out.c 10 (x := .slice none 0 0) rfl
        have r11 := HR.out.c 11 (x := .slice none 0 0) rfl
        have r12 := HR.out.c 12 (x := .slice none 0 0) rfl
        have r13 := HR.out.c 13 (x := .slice none 0 0) rfl
        have r14 := HR.out.c 14 (x := .slice none 0 0) rfl
        have z0 := HR.out.f 0
        have z1 := HR.out.f 1
        have z2 := HR.out.f 2
        have z3 := HR.out.f 3
        have z4 := HR.out.f 4
        have z5 := HR.out.f 5
        have z6 := HR.out.f 6
        have z7 := HR.out.f 7
        have z8 := HR.out.f 8
        have z9 := HR.out.f 9
        have z10 := HR.out.f 10
        have z11 := HR.out.f 11
        have z12 := HR.out.f 12
        have z13 := HR.out.f 13
        have z14 := HR.out.f 14
        go_wp2_with (go_at_call 16; refine (in_any _ _ _ _).mono ?_; rintro e w2 ⟨rfl, rfl⟩)
        try simp only [h3]
        try go_wp2_with fail
        exact bodyPost_ret (v := .tuple #[.agg #[.int .i64 0, .int .i64 0, .int .i64 0, .int .i64 0, .int .i64 0, .int .i64 0, .int .i64 0, .int .i64 0, .int .i64 0, .int .i64 0, .slice none 0 0, .slice none 0 0, .slice none 0 0, .slice none 0 0, .slice none 0 0], .bool false]) (by simp [results, Try.results5, go_sem, lr, r0, r1, r2, r3, r4, r5, r6, r7, r8, r9, r10, r11, r12, r13, r14]) rfl ⟨rfl, by repeat (first | with_reducible refine gS ?_ (by first | omega | (simp; omega)) _ _ | with_reducible refine gA ?_ _ | with_reducible refine gD ?_ _ | with_reducible refine gd ?_ | with_reducible exact HG.out | with_reducible exact World.grownBy.refl _ _)⟩
      · simp only [decide_eq_true h2, Bool.and_true, if_true]
        go_enter Try.func5, Try.ntmps5
        go_wp2_with fail
        refine (HI.out _).mono ?_
        rintro e w1 ⟨rfl, hg⟩
        have HG := Lib.hid (grownBy_trans (World.grownBy_alloc W (.cells #[.int .i64 0, .int .i64 0, .int .i64 0, .int .i64 0, .int .i64 0, .int .i64 0, .int .i64 0, .int .i64 0, .int .i64 0, .int .i64 0, .slice none 0 0, .slice none 0 0, .slice none 0 0, .slice none 0 0, .slice none 0 0] 30) none) hg)
        have HR := Lib.hid ((Bx.new W 30 #[.int .i64 0, .int .i64 0, .int .i64 0, .int .i64 0, .int .i64 0, .int .i64 0, .int .i64 0, .int .i64 0, .int .i64 0, .int .i64 0, .slice none 0 0, .slice none 0 0, .slice none 0 0, .slice none 0 0, .slice none 0 0]).keep hg)
        have lr := HR.out.lt
        clear hg
        have r0 := HR.out.c 0 (x := .int .i64 0) rfl
        have r1 := HR.out.c 1 (x := .int .i64 0) rfl
        have r2 := HR.out.c 2 (x := .int .i64 0) rfl
        have r3 := HR.out.c 3 (x := .int .i64 0) rfl
        have r4 := HR.out.c 4 (x := .int .i64 0) rfl
        have r5 := HR.out.c 5 (x := .int .i64 0) rfl
        have r6 := HR.out.c 6 (x := .int .i64 0) rfl
        have r7 := HR.out.c 7 (x := .int .i64 0) rfl
        have r8 := HR.out.c 8 (x := .int .i64 0) rfl
        have r9 := HR.out.c 9 (x := .int .i64 0) rfl
        have r10 := HR.out.c 10 (x := .slice none 0 0) rfl
        have r11 := HR.out.c 11 (x := .slice none 0 0) rfl
        have r12 := HR.out.c 12 (x := .slice none 0 0) rfl
        have r13 := HR.out.c 13 (x := .slice none 0 0) rfl
        have r14 := HR.out.c 14 (x := .slice none 0 0) rfl
        have z0 := HR.out.f 0
        have z1 := HR.out.f 1
        have z2 := HR.out.f 2
        have z3 := HR.out.f 3
        have z4 := HR.out.f 4
        have z5 := HR.out.f 5
        have z6 := HR.out.f 6
        have z7 := HR.out.f 7
        have z8 := HR.out.f 8
        have z9 := HR.out.f 9
        have z10 := HR.out.f 10
        have z11 := HR.out.f 11
        have z12 := HR.out.f 12
        have z13 := HR.out.f 13
        have z14 := HR.out.f 14
        go_wp2_with (go_at_call 16; refine (in_any _ _ _ _).mono ?_; rintro e w2 ⟨rfl, rfl⟩)
        try simp only [h3]
        try go_wp2_with fail
        exact bodyPost_ret (v := .tuple #[.agg #[.int .i64 t, .int .i64 m, .int .i64 (y * m), .int .i64 1000000000, .int .i64 1, .int .i64 0, .int .i64 0, .int .i64 0, .int .i64 0, .int .i64 0, .slice none 0 0, .slice none 0 0, .slice none 0 0, .slice none 0 0, .slice none 0 0], .bool true]) (by simp [results, Try.results5, go_sem, lr, r0, r1, r2, r3, r4, r5, r6, r7, r8, r9, r10, r11, r12, r13, r14]) rfl ⟨rfl, by repeat (first | with_reducible refine gS ?_ (by first | omega | (simp; omega)) _ _ | with_reducible refine gA ?_ _ | with_reducible refine gD ?_ _ | with_reducible refine gd ?_ | with_reducible exact HG.out | with_reducible exact World.grownBy.refl _ _)⟩
    · simp only [decide_eq_false h2, Bool.and_false, Bool.false_and, Bool.false_eq_true, if_false]
      cases h3 : inB t 0 3000
      all_goals
        go_enter Try.func5, Try.ntmps5
        go_wp2_with fail
        refine (HI.out _).mono ?_
        rintro e w1 ⟨rfl, hg⟩
        have HG := Lib.hid (grownBy_trans (World.grownBy_alloc W (.cells #[.int .i64 0, .int .i64 0, .int .i64 0, .int .i64 0, .int .i64 0, .int .i64 0, .int .i64 0, .int .i64 0, .int .i64 0, .int .i64 0, .slice none 0 0, .slice none 0 0, .slice none 0 0, .slice none 0 0, .slice none 0 0] 30) none) hg)
        have HR := Lib.hid ((Bx.new W 30 #[.int .i64 0, .int .i64 0, .int .i64 0, .int .i64 0, .int .i64 0, .int .i64 0, .int .i64 0, .int .i64 0, .int .i64 0, .int .i64 0, .slice none 0 0, .slice none 0 0, .slice none 0 0, .slice none 0 0, .slice none 0 0]).keep hg)
        have lr := HR.out.lt
        clear hg
        have r0 := HR.out.c 0 (x := .int .i64 0) rfl
        have r1 := HR.out.c 1 (x := .int .i64 0) rfl
        have r2 := HR.out.c 2 (x := .int .i64 0) rfl
        have r3 := HR.out.c 3 (x := .int .i64 0) rfl
        have r4 := HR.out.c 4 (x := .int .i64 0) rfl
        have r5 := HR.out.c 5 (x := .int .i64 0) rfl
        have r6 := HR.out.c 6 (x := .int .i64 0) rfl
        have r7 := HR.out.c 7 (x := .int .i64 0) rfl
        have r8 := HR.out.c 8 (x := .int .i64 0) rfl
        have r9 := HR.out.c 9 (x := .int .i64 0) rfl
        have r10 := HR.out.c 10 (x := .slice none 0 0) rfl
        have r11 := HR.out.c 11 (x := .slice none 0 0) rfl
        have r12 := HR.out.c 12 (x := .slice none 0 0) rfl
        have r13 := HR.out.c 13 (x := .slice none 0 0) rfl
        have r14 := HR.out.c 14 (x := .slice none 0 0) rfl
        have z0 := HR.out.f 0
        have z1 := HR.out.f 1
        have z2 := HR.out.f 2
        have z3 := HR.out.f 3
        have z4 := HR.out.f 4
        have z5 := HR.out.f 5
        have z6 := HR.out.f 6
        have z7 := HR.out.f 7
        have z8 := HR.out.f 8
        have z9 := HR.out.f 9
        have z10 := HR.out.f 10
        have z11 := HR.out.f 11
        have z12 := HR.out.f 12
        have z13 := HR.out.f 13
        have z14 := HR.out.f 14
        go_wp2_with (go_at_call 16; refine (in_any _ _ _ _).mono ?_; rintro e w2 ⟨rfl, rfl⟩)
        try simp only [h3]
        try go_wp2_with fail
        exact bodyPost_ret (v := .tuple #[.agg #[.int .i64 0, .int .i64 0, .int .i64 0, .int .i64 0, .int .i64 0, .int .i64 0, .int .i64 0, .int .i64 0, .int .i64 0, .int .i64 0, .slice none 0 0, .slice none 0 0, .slice none 0 0, .slice none 0 0, .slice none 0 0], .bool false]) (by simp [results, Try.results5, go_sem, lr, r0, r1, r2, r3, r4, r5, r6, r7, r8, r9, r10, r11, r12, r13, r14]) rfl ⟨rfl, by repeat (first | with_reducible refine gS ?_ (by first | omega | (simp; omega)) _ _ | with_reducible refine gA ?_ _ | with_reducible refine gD ?_ _ | with_reducible refine gd ?_ | with_reducible exact HG.out | with_reducible exact World.grownBy.refl _ _)⟩

set_option maxRecDepth 100000 in
theorem eqRange_nil (W : World) : Calls Try.prog 22 #[.slice none 0 0, .slice none 0 0] W fun e w' => e = .returned (.bool true) ∧ W = w' := by
  go_enter Try.func22, Try.ntmps22
  go_wp2
  refine wp_loop_rounds 1 ?_
  rw [rounds_succ]
  go_wp2
  go_ret
  exact ⟨rfl, rfl⟩

set_option maxRecDepth 100000 in
theorem markRange_nil (k : Int) (W : World) : Calls Try.prog 25 #[.slice none 0 0, .int .i64 k] W fun e w' => e = .returned (.int .i64 k) ∧ W = w' := by
  go_enter Try.func25, Try.ntmps25
  go_wp2
  refine wp_loop_rounds 1 ?_
  rw [rounds_succ]
  go_wp2
  go_ret
  exact ⟨rfl, rfl⟩

set_option maxRecDepth 100000 in
theorem heldRange_nil (k : Int) (W : World) : Calls Try.prog 29 #[.slice none 0 0, .int .i64 k] W fun e w' => e = .returned (.int .i64 k) ∧ W = w' := by
  go_enter Try.func29, Try.ntmps29
  go_wp2
  refine wp_loop_rounds 1 ?_
  rw [rounds_succ]
  go_wp2
  go_ret
  exact ⟨rfl, rfl⟩

set_option maxRecDepth 100000 in
theorem eqPiece_nil (W : World) : Calls Try.prog 21 #[.slice none 0 0, .slice none 0 0] W fun e w' => e = .returned (.bool true) ∧ W = w' := by
  go_enter Try.func21, Try.ntmps21
  go_wp2
  refine wp_loop_rounds 1 ?_
  rw [rounds_succ]
  go_wp2
  go_ret
  exact ⟨rfl, rfl⟩

set_option maxRecDepth 100000 in
theorem markPiece_nil (k : Int) (W : World) : Calls Try.prog 24 #[.slice none 0 0, .int .i64 k] W fun e w' => e = .returned (.int .i64 k) ∧ W = w' := by
  go_enter Try.func24, Try.ntmps24
  go_wp2
  refine wp_loop_rounds 1 ?_
  rw [rounds_succ]
  go_wp2
  go_ret
  exact ⟨rfl, rfl⟩

set_option maxRecDepth 100000 in
theorem heldPiece_nil (k : Int) (W : World) : Calls Try.prog 28 #[.slice none 0 0, .int .i64 k] W fun e w' => e = .returned (.int .i64 k) ∧ W = w' := by
  go_enter Try.func28, Try.ntmps28
  go_wp2
  refine wp_loop_rounds 1 ?_
  rw [rounds_succ]
  go_wp2
  go_ret
  exact ⟨rfl, rfl⟩

set_option maxRecDepth 100000 in
theorem eqNote_nil (W : World) : Calls Try.prog 14 #[.slice none 0 0, .slice none 0 0] W fun e w' => e = .returned (.bool true) ∧ W = w' := by
  go_enter Try.func14, Try.ntmps14
  go_wp2
  refine wp_loop_rounds 1 ?_
  rw [rounds_succ]
  go_wp2
  go_ret
  exact ⟨rfl, rfl⟩

set_option maxRecDepth 100000 in
theorem markNote_nil (k : Int) (W : World) : Calls Try.prog 26 #[.slice none 0 0, .int .i64 k] W fun e w' => e = .returned (.int .i64 k) ∧ W = w' := by
  go_enter Try.func26, Try.ntmps26
  go_wp2
  refine wp_loop_rounds 1 ?_
  rw [rounds_succ]
  go_wp2
  go_ret
  exact ⟨rfl, rfl⟩

set_option maxRecDepth 100000 in
theorem heldNote_nil (k : Int) (W : World) : Calls Try.prog 30 #[.slice none 0 0, .int .i64 k] W fun e w' => e = .returned (.int .i64 k) ∧ W = w' := by
  go_enter Try.func30, Try.ntmps30
  go_wp2
  refine wp_loop_rounds 1 ?_
  rw [rounds_succ]
  go_wp2
  go_ret
  exact ⟨rfl, rfl⟩

set_option maxRecDepth 100000 in
set_option maxHeartbeats 2000000 in
theorem eqBoard_nil (u n : Int) (W : World) : Calls Try.prog 20 #[.agg #[.int .i64 u, .int .i64 n, .slice none 0 0], .agg #[.int .i64 u, .int .i64 n, .slice none 0 0]] W fun e w' => e = .returned (.bool true) ∧ W.grownBy w' none := by
  go_enter Try.func20, Try.ntmps20
  go_wp2_with (first
    | (go_at_call 22; refine (eqRange_nil _).mono ?_; rintro e w2 ⟨rfl, rfl⟩))
  go_ret
  exact ⟨rfl, by repeat (first | with_reducible refine gS ?_ (by first | omega | (simp; omega)) _ _ | with_reducible refine gA ?_ _ | with_reducible refine gD ?_ _ | with_reducible refine gd ?_ | with_reducible exact HG.out | with_reducible exact World.grownBy.refl _ _)⟩

set_option maxRecDepth 100000 in
set_option maxHeartbeats 2000000 in
theorem markBoard_nil (u n k : Int) (W : World) : Calls Try.prog 23 #[.agg #[.int .i64 u, .int .i64 n, .slice none 0 0], .int .i64 k] W fun e w' => e = .returned (.int .i64 k) ∧ W.grownBy w' none := by
  go_enter Try.func23, Try.ntmps23
  go_wp2_with (first
    | (go_at_call 25; refine (markRange_nil _ _).mono ?_; rintro e w2 ⟨rfl, rfl⟩))
  go_ret
  exact ⟨rfl, by repeat (first | with_reducible refine gS ?_ (by first | omega | (simp; omega)) _ _ | with_reducible refine gA ?_ _ | with_reducible refine gD ?_ _ | with_reducible refine gd ?_ | with_reducible exact HG.out | with_reducible exact World.grownBy.refl _ _)⟩

set_option maxRecDepth 100000 in
theorem heldBoard_nil (u n : Int) (W : World) : Calls Try.prog 27 #[.agg #[.int .i64 u, .int .i64 n, .slice none 0 0], .int .i64 1] W fun e w' => e = .returned (.int .i64 1) ∧ W.grownBy w' none := by
  go_enter Try.func27, Try.ntmps27
  go_wp2_with (go_at_call 29; refine (heldRange_nil _ _).mono ?_; rintro e w2 ⟨rfl, rfl⟩)
  go_ret
  exact ⟨rfl, by repeat (first | with_reducible refine gS ?_ (by first | omega | (simp; omega)) _ _ | with_reducible refine gA ?_ _ | with_reducible refine gD ?_ _ | with_reducible refine gd ?_ | with_reducible exact HG.out | with_reducible exact World.grownBy.refl _ _)⟩

set_option maxRecDepth 100000 in
set_option maxHeartbeats 4000000 in
theorem eqWorld_nil (t R0 R1 R2 R3 R4 R5 R6 : Int) (W : World) : Calls Try.prog 7 #[.agg #[.int .i64 t, .int .i64 R0, .int .i64 R1, .int .i64 R2, .int .i64 R3, .int .i64 R4, .int .i64 R5, .int .i64 R6, .int .i64 0, .int .i64 0, .slice none 0 0, .slice none 0 0, .slice none 0 0, .slice none 0 0, .slice none 0 0], .agg #[.int .i64 t, .int .i64 R0, .int .i64 R1, .int .i64 R2, .int .i64 R3, .int .i64 R4, .int .i64 R5, .int .i64 R6, .int .i64 0, .int .i64 0, .slice none 0 0, .slice none 0 0, .slice none 0 0, .slice none 0 0, .slice none 0 0]] W fun e w' => e = .returned (.bool true) ∧ W.grownBy w' none := by
  have HA := Lib.hid (And.intro ((Bx.new W 30 #[.int .i64 t, .int .i64 R0, .int .i64 R1, .int .i64 R2, .int .i64 R3, .int .i64 R4, .int .i64 R5, .int .i64 R6, .int .i64 0, .int .i64 0, .slice none 0 0, .slice none 0 0, .slice none 0 0, .slice none 0 0, .slice none 0 0]).alloc (.cells #[.int .i64 t, .int .i64 R0, .int .i64 R1, .int .i64 R2, .int .i64 R3, .int .i64 R4, .int .i64 R5, .int .i64 R6, .int .i64 0, .int .i64 0, .slice none 0 0, .slice none 0 0, .slice none 0 0, .slice none 0 0, .slice none 0 0] 30)) (And.intro (Bx.new (W.alloc (.cells #[.int .i64 t, .int .i64 R0, .int .i64 R1, .int .i64 R2, .int .i64 R3, .int .i64 R4, .int .i64 R5, .int .i64 R6, .int .i64 0, .int .i64 0, .slice none 0 0, .slice none 0 0, .slice none 0 0, .slice none 0 0, .slice none 0 0] 30)) 30 #[.int .i64 t, .int .i64 R0, .int .i64 R1, .int .i64 R2, .int .i64 R3, .int .i64 R4, .int .i64 R5, .int .i64 R6, .int .i64 0, .int .i64 0, .slice none 0 0, .slice none 0 0, .slice none 0 0, .slice none 0 0, .slice none 0 0]) (gA (World.grownBy_alloc W (.cells #[.int .i64 t, .int .i64 R0, .int .i64 R1, .int .i64 R2, .int .i64 R3, .int .i64 R4, .int .i64 R5, .int .i64 R6, .int .i64 0, .int .i64 0, .slice none 0 0, .slice none 0 0, .slice none 0 0, .slice none 0 0, .slice none 0 0] 30) none) (.cells #[.int .i64 t, .int .i64 R0, .int .i64 R1, .int .i64 R2, .int .i64 R3, .int .i64 R4, .int .i64 R5, .int .i64 R6, .int .i64 0, .int .i64 0, .slice none 0 0, .slice none 0 0, .slice none 0 0, .slice none 0 0, .slice none 0 0] 30))))
  go_enter Try.func7, Try.ntmps7
  go_wp2_with fail
  refine (rn_eq R0 R1 R2 R3 R4 R5 R6 _).mono ?_
  rintro e w1 ⟨rfl, hg⟩
  have HB := Lib.hid (And.intro (HA.out.1.keep hg) (And.intro (HA.out.2.1.keep hg) (grownBy_trans HA.out.2.2 hg)))
  clear hg
  simp only [World.size_alloc] at HB
  have a0 : w1.cell? ⟨W.heap.size, 0, none⟩ = some (.int .i64 t) := HB.out.1.c 0 rfl
  have a1 : w1.cell? ⟨W.heap.size, 1, none⟩ = some (.int .i64 R0) := HB.out.1.c 1 rfl
  have a2 : w1.cell? ⟨W.heap.size, 2, none⟩ = some (.int .i64 R1) := HB.out.1.c 2 rfl
  have a3 : w1.cell? ⟨W.heap.size, 3, none⟩ = some (.int .i64 R2) := HB.out.1.c 3 rfl
  have a4 : w1.cell? ⟨W.heap.size, 4, none⟩ = some (.int .i64 R3) := HB.out.1.c 4 rfl
  have a5 : w1.cell? ⟨W.heap.size, 5, none⟩ = some (.int .i64 R4) := HB.out.1.c 5 rfl
  have a6 : w1.cell? ⟨W.heap.size, 6, none⟩ = some (.int .i64 R5) := HB.out.1.c 6 rfl
  have a7 : w1.cell? ⟨W.heap.size, 7, none⟩ = some (.int .i64 R6) := HB.out.1.c 7 rfl
  have a8 : w1.cell? ⟨W.heap.size, 8, none⟩ = some (.int .i64 0) := HB.out.1.c 8 rfl
  have a9 : w1.cell? ⟨W.heap.size, 9, none⟩ = some (.int .i64 0) := HB.out.1.c 9 rfl
  have a10 : w1.cell? ⟨W.heap.size, 10, none⟩ = some (.slice none 0 0) := HB.out.1.c 10 rfl
  have a11 : w1.cell? ⟨W.heap.size, 11, none⟩ = some (.slice none 0 0) := HB.out.1.c 11 rfl
  have a12 : w1.cell? ⟨W.heap.size, 12, none⟩ = some (.slice none 0 0) := HB.out.1.c 12 rfl
  have a13 : w1.cell? ⟨W.heap.size, 13, none⟩ = some (.slice none 0 0) := HB.out.1.c 13 rfl
  have a14 : w1.cell? ⟨W.heap.size, 14, none⟩ = some (.slice none 0 0) := HB.out.1.c 14 rfl
  have b0 : w1.cell? ⟨W.heap.size + 1, 0, none⟩ = some (.int .i64 t) := HB.out.2.1.c 0 rfl
  have b1 : w1.cell? ⟨W.heap.size + 1, 1, none⟩ = some (.int .i64 R0) := HB.out.2.1.c 1 rfl
  have b2 : w1.cell? ⟨W.heap.size + 1, 2, none⟩ = some (.int .i64 R1) := HB.out.2.1.c 2 rfl
  have b3 : w1.cell? ⟨W.heap.size + 1, 3, none⟩ = some (.int .i64 R2) := HB.out.2.1.c 3 rfl
  have b4 : w1.cell? ⟨W.heap.size + 1, 4, none⟩ = some (.int .i64 R3) := HB.out.2.1.c 4 rfl
  have b5 : w1.cell? ⟨W.heap.size + 1, 5, none⟩ = some (.int .i64 R4) := HB.out.2.1.c 5 rfl
  have b6 : w1.cell? ⟨W.heap.size + 1, 6, none⟩ = some (.int .i64 R5) := HB.out.2.1.c 6 rfl
  have b7 : w1.cell? ⟨W.heap.size + 1, 7, none⟩ = some (.int .i64 R6) := HB.out.2.1.c 7 rfl
  have b8 : w1.cell? ⟨W.heap.size + 1, 8, none⟩ = some (.int .i64 0) := HB.out.2.1.c 8 rfl
  have b9 : w1.cell? ⟨W.heap.size + 1, 9, none⟩ = some (.int .i64 0) := HB.out.2.1.c 9 rfl
  have b10 : w1.cell? ⟨W.heap.size + 1, 10, none⟩ = some (.slice none 0 0) := HB.out.2.1.c 10 rfl
  have b11 : w1.cell? ⟨W.heap.size + 1, 11, none⟩ = some (.slice none 0 0) := HB.out.2.1.c 11 rfl
  have b12 : w1.cell? ⟨W.heap.size + 1, 12, none⟩ = some (.slice none 0 0) := HB.out.2.1.c 12 rfl
  have b13 : w1.cell? ⟨W.heap.size + 1, 13, none⟩ = some (.slice none 0 0) := HB.out.2.1.c 13 rfl
  have b14 : w1.cell? ⟨W.heap.size + 1, 14, none⟩ = some (.slice none 0 0) := HB.out.2.1.c 14 rfl
  go_wp2_with fail
  refine (eqBoard_nil 0 0 _).mono ?_
  rintro e w2 ⟨rfl, hg⟩
  have HC := Lib.hid (And.intro (HB.out.1.keep hg) (And.intro (HB.out.2.1.keep hg) (grownBy_trans HB.out.2.2 hg)))
  clear hg
  clear a0 a1 a2 a3 a4 a5 a6 a7 a8 a9 a10 a11 a12 a13 a14
  clear b0 b1 b2 b3 b4 b5 b6 b7 b8 b9 b10 b11 b12 b13 b14
  have a0 : w2.cell? ⟨W.heap.size, 0, none⟩ = some (.int .i64 t) := HC.out.1.c 0 rfl
  have a1 : w2.cell? ⟨W.heap.size, 1, none⟩ = some (.int .i64 R0) := HC.out.1.c 1 rfl
  have a2 : w2.cell? ⟨W.heap.size, 2, none⟩ = some (.int .i64 R1) := HC.out.1.c 2 rfl
  have a3 : w2.cell? ⟨W.heap.size, 3, none⟩ = some (.int .i64 R2) := HC.out.1.c 3 rfl
  have a4 : w2.cell? ⟨W.heap.size, 4, none⟩ = some (.int .i64 R3) := HC.out.1.c 4 rfl
  have a5 : w2.cell? ⟨W.heap.size, 5, none⟩ = some (.int .i64 R4) := HC.out.1.c 5 rfl
  have a6 : w2.cell? ⟨W.heap.size, 6, none⟩ = some (.int .i64 R5) := HC.out.1.c 6 rfl
  have a7 : w2.cell? ⟨W.heap.size, 7, none⟩ = some (.int .i64 R6) := HC.out.1.c 7 rfl
  have a8 : w2.cell? ⟨W.heap.size, 8, none⟩ = some (.int .i64 0) := HC.out.1.c 8 rfl
  have a9 : w2.cell? ⟨W.heap.size, 9, none⟩ = some (.int .i64 0) := HC.out.1.c 9 rfl
  have a10 : w2.cell? ⟨W.heap.size, 10, none⟩ = some (.slice none 0 0) := HC.out.1.c 10 rfl
  have a11 : w2.cell? ⟨W.heap.size, 11, none⟩ = some (.slice none 0 0) := HC.out.1.c 11 rfl
  have a12 : w2.cell? ⟨W.heap.size, 12, none⟩ = some (.slice none 0 0) := HC.out.1.c 12 rfl
  have a13 : w2.cell? ⟨W.heap.size, 13, none⟩ = some (.slice none 0 0) := HC.out.1.c 13 rfl
  have a14 : w2.cell? ⟨W.heap.size, 14, none⟩ = some (.slice none 0 0) := HC.out.1.c 14 rfl
  have b0 : w2.cell? ⟨W.heap.size + 1, 0, none⟩ = some (.int .i64 t) := HC.out.2.1.c 0 rfl
  have b1 : w2.cell? ⟨W.heap.size + 1, 1, none⟩ = some (.int .i64 R0) := HC.out.2.1.c 1 rfl
  have b2 : w2.cell? ⟨W.heap.size + 1, 2, none⟩ = some (.int .i64 R1) := HC.out.2.1.c 2 rfl
  have b3 : w2.cell? ⟨W.heap.size + 1, 3, none⟩ = some (.int .i64 R2) := HC.out.2.1.c 3 rfl
  have b4 : w2.cell? ⟨W.heap.size + 1, 4, none⟩ = some (.int .i64 R3) := HC.out.2.1.c 4 rfl
  have b5 : w2.cell? ⟨W.heap.size + 1, 5, none⟩ = some (.int .i64 R4) := HC.out.2.1.c 5 rfl
  have b6 : w2.cell? ⟨W.heap.size + 1, 6, none⟩ = some (.int .i64 R5) := HC.out.2.1.c 6 rfl
  have b7 : w2.cell? ⟨W.heap.size + 1, 7, none⟩ = some (.int .i64 R6) := HC.out.2.1.c 7 rfl
  have b8 : w2.cell? ⟨W.heap.size + 1, 8, none⟩ = some (.int .i64 0) := HC.out.2.1.c 8 rfl
  have b9 : w2.cell? ⟨W.heap.size + 1, 9, none⟩ = some (.int .i64 0) := HC.out.2.1.c 9 rfl
  have b10 : w2.cell? ⟨W.heap.size + 1, 10, none⟩ = some (.slice none 0 0) := HC.out.2.1.c 10 rfl
  have b11 : w2.cell? ⟨W.heap.size + 1, 11, none⟩ = some (.slice none 0 0) := HC.out.2.1.c 11 rfl
  have b12 : w2.cell? ⟨W.heap.size + 1, 12, none⟩ = some (.slice none 0 0) := HC.out.2.1.c 12 rfl
  have b13 : w2.cell? ⟨W.heap.size + 1, 13, none⟩ = some (.slice none 0 0) := HC.out.2.1.c 13 rfl
  have b14 : w2.cell? ⟨W.heap.size + 1, 14, none⟩ = some (.slice none 0 0) := HC.out.2.1.c 14 rfl
  go_wp2_with (first | (go_at_call 22; refine (eqRange_nil _).mono ?_; rintro e w9 ⟨rfl, rfl⟩) | (go_at_call 21; refine (eqPiece_nil _).mono ?_; rintro e w9 ⟨rfl, rfl⟩) | (go_at_call 14; refine (eqNote_nil _).mono ?_; rintro e w9 ⟨rfl, rfl⟩))
  go_ret
  exact ⟨rfl, HC.out.2.2⟩

set_option maxRecDepth 100000 in
set_option maxHeartbeats 4000000 in
theorem markWorld_nil (t R0 R1 R2 R3 R4 R5 R6 k : Int) (W : World) : Calls Try.prog 8 #[.agg #[.int .i64 t, .int .i64 R0, .int .i64 R1, .int .i64 R2, .int .i64 R3, .int .i64 R4, .int .i64 R5, .int .i64 R6, .int .i64 0, .int .i64 0, .slice none 0 0, .slice none 0 0, .slice none 0 0, .slice none 0 0, .slice none 0 0], .int .i64 k] W fun e w' => e = .returned (.int .i64 k) ∧ W.grownBy w' none := by
  have HA := Lib.hid (And.intro (Bx.new W 30 #[.int .i64 t, .int .i64 R0, .int .i64 R1, .int .i64 R2, .int .i64 R3, .int .i64 R4, .int .i64 R5, .int .i64 R6, .int .i64 0, .int .i64 0, .slice none 0 0, .slice none 0 0, .slice none 0 0, .slice none 0 0, .slice none 0 0]) (World.grownBy_alloc W (.cells #[.int .i64 t, .int .i64 R0, .int .i64 R1, .int .i64 R2, .int .i64 R3, .int .i64 R4, .int .i64 R5, .int .i64 R6, .int .i64 0, .int .i64 0, .slice none 0 0, .slice none 0 0, .slice none 0 0, .slice none 0 0, .slice none 0 0] 30) none))
  go_enter Try.func8, Try.ntmps8
  go_wp2_with fail
  refine (markBoard_nil 0 0 k _).mono ?_
  rintro e w1 ⟨rfl, hg⟩
  have HC := Lib.hid (And.intro (HA.out.1.keep hg) (grownBy_trans HA.out.2 hg))
  clear hg
  have a0 : w1.cell? ⟨W.heap.size, 0, none⟩ = some (.int .i64 t) := HC.out.1.c 0 rfl
  have a1 : w1.cell? ⟨W.heap.size, 1, none⟩ = some (.int .i64 R0) := HC.out.1.c 1 rfl
  have a2 : w1.cell? ⟨W.heap.size, 2, none⟩ = some (.int .i64 R1) := HC.out.1.c 2 rfl
  have a3 : w1.cell? ⟨W.heap.size, 3, none⟩ = some (.int .i64 R2) := HC.out.1.c 3 rfl
  have a4 : w1.cell? ⟨W.heap.size, 4, none⟩ = some (.int .i64 R3) := HC.out.1.c 4 rfl
  have a5 : w1.cell? ⟨W.heap.size, 5, none⟩ = some (.int .i64 R4) := HC.out.1.c 5 rfl
  have a6 : w1.cell? ⟨W.heap.size, 6, none⟩ = some (.int .i64 R5) := HC.out.1.c 6 rfl
  have a7 : w1.cell? ⟨W.heap.size, 7, none⟩ = some (.int .i64 R6) := HC.out.1.c 7 rfl
  have a8 : w1.cell? ⟨W.heap.size, 8, none⟩ = some (.int .i64 0) := HC.out.1.c 8 rfl
  have a9 : w1.cell? ⟨W.heap.size, 9, none⟩ = some (.int .i64 0) := HC.out.1.c 9 rfl
  have a10 : w1.cell? ⟨W.heap.size, 10, none⟩ = some (.slice none 0 0) := HC.out.1.c 10 rfl
  have a11 : w1.cell? ⟨W.heap.size, 11, none⟩ = some (.slice none 0 0) := HC.out.1.c 11 rfl
  have a12 : w1.cell? ⟨W.heap.size, 12, none⟩ = some (.slice none 0 0) := HC.out.1.c 12 rfl
  have a13 : w1.cell? ⟨W.heap.size, 13, none⟩ = some (.slice none 0 0) := HC.out.1.c 13 rfl
  have a14 : w1.cell? ⟨W.heap.size, 14, none⟩ = some (.slice none 0 0) := HC.out.1.c 14 rfl
  go_wp2_with (first | (go_at_call 25; refine (markRange_nil _ _).mono ?_; rintro e w9 ⟨rfl, rfl⟩) | (go_at_call 24; refine (markPiece_nil _ _).mono ?_; rintro e w9 ⟨rfl, rfl⟩) | (go_at_call 26; refine (markNote_nil _ _).mono ?_; rintro e w9 ⟨rfl, rfl⟩))
  go_ret
  exact ⟨rfl, HC.out.2⟩

set_option maxRecDepth 100000 in
set_option maxHeartbeats 4000000 in
theorem heldWorld_nil (t R0 R1 R2 R3 R4 R5 R6 : Int) (W : World) : Calls Try.prog 9 #[.agg #[.int .i64 t, .int .i64 R0, .int .i64 R1, .int .i64 R2, .int .i64 R3, .int .i64 R4, .int .i64 R5, .int .i64 R6, .int .i64 0, .int .i64 0, .slice none 0 0, .slice none 0 0, .slice none 0 0, .slice none 0 0, .slice none 0 0], .int .i64 1] W fun e w' => e = .returned (.int .i64 1) ∧ W.grownBy w' none := by
  have HA := Lib.hid (And.intro (Bx.new W 30 #[.int .i64 t, .int .i64 R0, .int .i64 R1, .int .i64 R2, .int .i64 R3, .int .i64 R4, .int .i64 R5, .int .i64 R6, .int .i64 0, .int .i64 0, .slice none 0 0, .slice none 0 0, .slice none 0 0, .slice none 0 0, .slice none 0 0]) (World.grownBy_alloc W (.cells #[.int .i64 t, .int .i64 R0, .int .i64 R1, .int .i64 R2, .int .i64 R3, .int .i64 R4, .int .i64 R5, .int .i64 R6, .int .i64 0, .int .i64 0, .slice none 0 0, .slice none 0 0, .slice none 0 0, .slice none 0 0, .slice none 0 0] 30) none))
  go_enter Try.func9, Try.ntmps9
  go_wp2_with fail
  refine (heldBoard_nil 0 0 _).mono ?_
  rintro e w1 ⟨rfl, hg⟩
  have HC := Lib.hid (And.intro (HA.out.1.keep hg) (grownBy_trans HA.out.2 hg))
  clear hg
  have a0 : w1.cell? ⟨W.heap.size, 0, none⟩ = some (.int .i64 t) := HC.out.1.c 0 rfl
  have a1 : w1.cell? ⟨W.heap.size, 1, none⟩ = some (.int .i64 R0) := HC.out.1.c 1 rfl
  have a2 : w1.cell? ⟨W.heap.size, 2, none⟩ = some (.int .i64 R1) := HC.out.1.c 2 rfl
  have a3 : w1.cell? ⟨W.heap.size, 3, none⟩ = some (.int .i64 R2) := HC.out.1.c 3 rfl
  have a4 : w1.cell? ⟨W.heap.size, 4, none⟩ = some (.int .i64 R3) := HC.out.1.c 4 rfl
  have a5 : w1.cell? ⟨W.heap.size, 5, none⟩ = some (.int .i64 R4) := HC.out.1.c 5 rfl
  have a6 : w1.cell? ⟨W.heap.size, 6, none⟩ = some (.int .i64 R5) := HC.out.1.c 6 rfl
  have a7 : w1.cell? ⟨W.heap.size, 7, none⟩ = some (.int .i64 R6) := HC.out.1.c 7 rfl
  have a8 : w1.cell? ⟨W.heap.size, 8, none⟩ = some (.int .i64 0) := HC.out.1.c 8 rfl
  have a9 : w1.cell? ⟨W.heap.size, 9, none⟩ = some (.int .i64 0) := HC.out.1.c 9 rfl
  have a10 : w1.cell? ⟨W.heap.size, 10, none⟩ = some (.slice none 0 0) := HC.out.1.c 10 rfl
  have a11 : w1.cell? ⟨W.heap.size, 11, none⟩ = some (.slice none 0 0) := HC.out.1.c 11 rfl
  have a12 : w1.cell? ⟨W.heap.size, 12, none⟩ = some (.slice none 0 0) := HC.out.1.c 12 rfl
  have a13 : w1.cell? ⟨W.heap.size, 13, none⟩ = some (.slice none 0 0) := HC.out.1.c 13 rfl
  have a14 : w1.cell? ⟨W.heap.size, 14, none⟩ = some (.slice none 0 0) := HC.out.1.c 14 rfl
  go_wp2_with (first | (go_at_call 29; refine (heldRange_nil _ _).mono ?_; rintro e w9 ⟨rfl, rfl⟩) | (go_at_call 28; refine (heldPiece_nil _ _).mono ?_; rintro e w9 ⟨rfl, rfl⟩) | (go_at_call 30; refine (heldNote_nil _ _).mono ?_; rintro e w9 ⟨rfl, rfl⟩))
  go_ret
  exact ⟨rfl, HC.out.2⟩

end Go.Proofs.Ytdlegnbjcgceeaa
