/- Windows: the model's step, whole. -/
import Derived.Test.YtdlegnbjcgceeaaRnS
namespace Go.Proofs.Ytdlegnbjcgceeaa
open Go.RowKit

def nwB (m y : Int) : Bool := inB m 1 10000 && inB y 1 10
def nwR (m y : Int) : Rn := if nwB m y = true then ⟨m, y * m, 1000000000, 1, 0, 0, 0⟩ else rnZ
def nwV (m y : Int) : Value := .tuple #[rnV (if (inB m 1 10000 && inB y 1 10) = true then ⟨m, y * m, 1000000000, 1, 0, 0, 0⟩ else rnZ), .bool (nwB m y)]

set_option maxRecDepth 100000 in
set_option maxHeartbeats 2000000 in
theorem rn_newI (m y : Int) (W : World)  : Calls Try.prog 17 #[.int .i64 m, .int .i64 y] W fun e w' => e = .returned (nwV m y) ∧ W.grownBy w' none := by
  unfold nwV nwB
  cases g1 : inB m 1 10000
  · simp only [Bool.false_and, Bool.false_eq_true, if_false, rnV, rnZ]
    go_enter Try.func17, Try.ntmps17
    go_wp2_with (go_at_call 36; refine (rn_mss _ _).mono ?_; rintro e w' ⟨rfl, rfl⟩)
    exact bodyPost_ret (v := .tuple #[.agg #[.int .i64 0, .int .i64 0, .int .i64 0, .int .i64 0, .int .i64 0, .int .i64 0, .int .i64 0], .bool false]) (by simp [results, Try.results17, go_sem]) rfl ⟨rfl, by repeat (first | with_reducible refine gS ?_ (by first | omega | (simp; omega)) _ _ | with_reducible refine gA ?_ _ | with_reducible refine gD ?_ _ | with_reducible refine gd ?_ | with_reducible exact World.grownBy.refl _ _)⟩
  · by_cases q1 : y < 1
    · rw [show inB y 1 10 = false from decide_eq_false (by omega)]
      simp only [Bool.and_false, Bool.false_eq_true, if_false, rnV, rnZ]
      go_enter Try.func17, Try.ntmps17
      go_wp2_with (go_at_call 36; refine (rn_mss _ _).mono ?_; rintro e w' ⟨rfl, rfl⟩)
      exact bodyPost_ret (v := .tuple #[.agg #[.int .i64 0, .int .i64 0, .int .i64 0, .int .i64 0, .int .i64 0, .int .i64 0, .int .i64 0], .bool false]) (by simp [results, Try.results17, go_sem]) rfl ⟨rfl, by repeat (first | with_reducible refine gS ?_ (by first | omega | (simp; omega)) _ _ | with_reducible refine gA ?_ _ | with_reducible refine gD ?_ _ | with_reducible refine gd ?_ | with_reducible exact World.grownBy.refl _ _)⟩
    · by_cases q2 : 10 < y
      · rw [show inB y 1 10 = false from decide_eq_false (by omega)]
        simp only [Bool.and_false, Bool.false_eq_true, if_false, rnV, rnZ]
        go_enter Try.func17, Try.ntmps17
        go_wp2_with (go_at_call 36; refine (rn_mss _ _).mono ?_; rintro e w' ⟨rfl, rfl⟩)
        exact bodyPost_ret (v := .tuple #[.agg #[.int .i64 0, .int .i64 0, .int .i64 0, .int .i64 0, .int .i64 0, .int .i64 0, .int .i64 0], .bool false]) (by simp [results, Try.results17, go_sem]) rfl ⟨rfl, by repeat (first | with_reducible refine gS ?_ (by first | omega | (simp; omega)) _ _ | with_reducible refine gA ?_ _ | with_reducible refine gD ?_ _ | with_reducible refine gd ?_ | with_reducible exact World.grownBy.refl _ _)⟩
      · rw [show inB y 1 10 = true from decide_eq_true (by omega)]
        have k1 := in_of g1
        have hp : -4000000000000000 ≤ y * m ∧ y * m ≤ 4000000000000000 := by
          have z1 : 0 ≤ y * m := Int.mul_nonneg (by omega) (by omega)
          have z2 : y * m ≤ 10 * 10000 := Int.mul_le_mul (by omega) (by omega) (by omega) (by omega)
          omega
        have s1 : IntKind.i64.wrap (y * m) = y * m := wr hp
        clear hp
        simp only [Bool.and_self, if_true, rnV]
        go_enter Try.func17, Try.ntmps17
        go_wp2_with (go_at_call 36; refine (rn_mss _ _).mono ?_; rintro e w' ⟨rfl, rfl⟩)
        exact bodyPost_ret (v := .tuple #[.agg #[.int .i64 m, .int .i64 (y * m), .int .i64 1000000000, .int .i64 1, .int .i64 0, .int .i64 0, .int .i64 0], .bool true]) (by simp [results, Try.results17, go_sem]) rfl ⟨rfl, by repeat (first | with_reducible refine gS ?_ (by first | omega | (simp; omega)) _ _ | with_reducible refine gA ?_ _ | with_reducible refine gD ?_ _ | with_reducible refine gd ?_ | with_reducible exact World.grownBy.refl _ _)⟩

set_option maxRecDepth 100000 in
set_option maxHeartbeats 2000000 in
theorem rn_newS (m y : Int) (W : World)  : Calls Try.prog 15 #[.int .i64 m, .int .i64 y] W fun e w' => e = .returned (nwV m y) ∧ W.grownBy w' none := by
  unfold nwV nwB
  cases g1 : inB m 1 10000
  · simp only [Bool.false_and, Bool.false_eq_true, if_false, rnV, rnZ]
    go_enter Try.func15, Try.ntmps15
    go_wp2_with (go_at_call 16; refine (in_any _ _ _ _).mono ?_; rintro e w' ⟨rfl, rfl⟩)
    exact bodyPost_ret (v := .tuple #[.agg #[.int .i64 0, .int .i64 0, .int .i64 0, .int .i64 0, .int .i64 0, .int .i64 0, .int .i64 0], .bool false]) (by simp [results, Try.results15, go_sem]) rfl ⟨rfl, by repeat (first | with_reducible refine gS ?_ (by first | omega | (simp; omega)) _ _ | with_reducible refine gA ?_ _ | with_reducible refine gD ?_ _ | with_reducible refine gd ?_ | with_reducible exact World.grownBy.refl _ _)⟩
  · cases g2 : inB y 1 10
    · simp only [Bool.and_false, Bool.false_eq_true, if_false, rnV, rnZ]
      go_enter Try.func15, Try.ntmps15
      go_wp2_with (go_at_call 16; refine (in_any _ _ _ _).mono ?_; rintro e w' ⟨rfl, rfl⟩)
      exact bodyPost_ret (v := .tuple #[.agg #[.int .i64 0, .int .i64 0, .int .i64 0, .int .i64 0, .int .i64 0, .int .i64 0, .int .i64 0], .bool false]) (by simp [results, Try.results15, go_sem]) rfl ⟨rfl, by repeat (first | with_reducible refine gS ?_ (by first | omega | (simp; omega)) _ _ | with_reducible refine gA ?_ _ | with_reducible refine gD ?_ _ | with_reducible refine gd ?_ | with_reducible exact World.grownBy.refl _ _)⟩
    · have q1 := in_of g2
      have k1 := in_of g1
      have hp : -4000000000000000 ≤ y * m ∧ y * m ≤ 4000000000000000 := by
        have z1 : 0 ≤ y * m := Int.mul_nonneg (by omega) (by omega)
        have z2 : y * m ≤ 10 * 10000 := Int.mul_le_mul (by omega) (by omega) (by omega) (by omega)
        omega
      have s1 : IntKind.i64.wrap (y * m) = y * m := wr hp
      clear hp
      simp only [Bool.and_self, if_true, rnV]
      go_enter Try.func15, Try.ntmps15
      go_wp2_with (go_at_call 16; refine (in_any _ _ _ _).mono ?_; rintro e w' ⟨rfl, rfl⟩)
      exact bodyPost_ret (v := .tuple #[.agg #[.int .i64 m, .int .i64 (y * m), .int .i64 1000000000, .int .i64 1, .int .i64 0, .int .i64 0, .int .i64 0], .bool true]) (by simp [results, Try.results15, go_sem]) rfl ⟨rfl, by repeat (first | with_reducible refine gS ?_ (by first | omega | (simp; omega)) _ _ | with_reducible refine gA ?_ _ | with_reducible refine gD ?_ _ | with_reducible refine gd ?_ | with_reducible exact World.grownBy.refl _ _)⟩

end Go.Proofs.Ytdlegnbjcgceeaa
