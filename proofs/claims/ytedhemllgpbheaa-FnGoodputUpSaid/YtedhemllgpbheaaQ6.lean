/- Rn -/
import Derived.Test.YtedhemllgpbheaaQ1
import Derived.Lib.Hide
import Derived.BigQuiet
import Derived.Deep.QuietTactic
namespace Go.Proofs.Ytedhemllgpbheaa
open Go.RowKit

structure Rn where
  m : Int
  w : Int
  l : Int
  p : Int
  d : Int
  o : Int
  g : Int
structure Ev where
  k : Int
  n : Int
  a : Int
  f : Int
  x : Int
def rnV (r : Rn) : Value := .agg #[.int .i64 r.m, .int .i64 r.w, .int .i64 r.l, .int .i64 r.p, .int .i64 r.d, .int .i64 r.o, .int .i64 r.g]
def rnZ : Rn := ⟨0, 0, 0, 0, 0, 0, 0⟩
def rnOk (r : Rn) : Bool := decide (1 ≤ r.m ∧ r.m ≤ 10000 ∧ r.m ≤ r.w ∧ r.w ≤ 1000000000 ∧ 2 * r.m ≤ r.l ∧ r.l ≤ 1000000000 ∧ 0 ≤ r.o ∧ r.o ≤ 1000000000 ∧ ((r.p = 1 ∧ r.w < r.l ∧ 0 ≤ r.d ∧ r.d ≤ 2 ∧ r.g = 0) ∨ (r.p = 2 ∧ r.l ≤ r.w ∧ 0 ≤ r.d ∧ r.d ≤ 2 ∧ 0 ≤ r.g ∧ r.g < r.w) ∨ (r.p = 3 ∧ r.d = 3 ∧ r.g = 0)))
def evOk (e : Ev) : Bool := decide (((e.k = 1 ∧ 1 ≤ e.n ∧ e.n ≤ 1000000000) ∨ ((e.k = 2 ∨ e.k = 3) ∧ e.n = 0)) ∧ 0 ≤ e.f ∧ e.f ≤ 1000000000 ∧ 0 ≤ e.x ∧ e.x ≤ 1000000000 ∧ 0 ≤ e.a ∧ e.a ≤ e.x)
theorem rn_of {r : Rn} (h : rnOk r = true) : 1 ≤ r.m ∧ r.m ≤ 10000 ∧ r.m ≤ r.w ∧ r.w ≤ 1000000000 ∧ 2 * r.m ≤ r.l ∧ r.l ≤ 1000000000 ∧ 0 ≤ r.o ∧ r.o ≤ 1000000000 ∧ ((r.p = 1 ∧ r.w < r.l ∧ 0 ≤ r.d ∧ r.d ≤ 2 ∧ r.g = 0) ∨ (r.p = 2 ∧ r.l ≤ r.w ∧ 0 ≤ r.d ∧ r.d ≤ 2 ∧ 0 ≤ r.g ∧ r.g < r.w) ∨ (r.p = 3 ∧ r.d = 3 ∧ r.g = 0)) := of_decide_eq_true h
theorem ev_of {e : Ev} (h : evOk e = true) : ((e.k = 1 ∧ 1 ≤ e.n ∧ e.n ≤ 1000000000) ∨ ((e.k = 2 ∨ e.k = 3) ∧ e.n = 0)) ∧ 0 ≤ e.f ∧ e.f ≤ 1000000000 ∧ 0 ≤ e.x ∧ e.x ≤ 1000000000 ∧ 0 ≤ e.a ∧ e.a ≤ e.x := of_decide_eq_true h
/-- The phase that a window has outside of mending. -/
def rnSet (r : Rn) : Rn := if r.w < r.l then ⟨r.m, r.w, r.l, 1, r.d, r.o, 0⟩ else ⟨r.m, r.w, r.l, 2, r.d, r.o, if r.g < r.w - 1 then r.g else r.w - 1⟩
def gro (a n : Int) : Int := if a + n < 1000000000 then a + n else 1000000000
def hlf (f m : Int) : Int := if f / 2 < 2 * m then 2 * m else f / 2
def mn (a b : Int) : Int := if a < b then a else b
def rnLate (r : Rn) (e : Ev) : Rn := rnSet ⟨r.m, r.m, hlf e.f r.m, r.p, 0, e.x, 0⟩
def rnNo (r : Rn) (e : Ev) : Rn := if r.d < 2 then ⟨r.m, r.w, r.l, r.p, r.d + 1, r.o, r.g⟩ else ⟨r.m, hlf e.f r.m + 3 * r.m, hlf e.f r.m, 3, 3, e.x, 0⟩
def rnAck (r : Rn) (e : Ev) : Rn :=
  if r.p = 1 then rnSet ⟨r.m, gro r.w (mn e.n r.m), r.l, r.p, 0, r.o, r.g⟩
  else if r.p = 2 then (if r.w ≤ r.g + e.n then rnSet ⟨r.m, gro r.w r.m, r.l, r.p, 0, r.o, r.g + e.n - r.w⟩ else rnSet ⟨r.m, r.w, r.l, r.p, 0, r.o, r.g + e.n⟩)
  else (if e.a < r.o then ⟨r.m, gro (if r.w < e.n then 0 else r.w - e.n) r.m, r.l, r.p, r.d, r.o, r.g⟩ else rnSet ⟨r.m, r.l, r.l, r.p, 0, r.o, r.g⟩)
def rnStep (r : Rn) (e : Ev) : Rn :=
  if e.k = 1 then rnAck r e else if e.k = 3 then rnLate r e else if r.p = 3 then ⟨r.m, gro r.w r.m, r.l, r.p, r.d, r.o, r.g⟩ else rnNo r e

theorem wr {v : Int} (h : -4000000000000000 ≤ v ∧ v ≤ 4000000000000000) : IntKind.i64.wrap v = v := IntWalk.i64_in _ (by omega)
theorem half_i (f : Int) (h : 0 ≤ f ∧ f ≤ 1000000000) : IntKind.i64.wrap (f.tdiv 2) = f / 2 := by
  rw [Int.tdiv_eq_ediv_of_nonneg h.1]; exact IntWalk.i64_in _ (by omega)

set_option maxRecDepth 100000 in
set_option maxHeartbeats 1000000 in
theorem rn_okS (m w l p d o g : Int) (W : World) : Calls Try.prog 32 #[.agg #[.int .i64 m, .int .i64 w, .int .i64 l, .int .i64 p, .int .i64 d, .int .i64 o, .int .i64 g]] W fun e w' => e = .returned (.bool (rnOk ⟨m, w, l, p, d, o, g⟩)) ∧ w' = W.alloc (.cells #[.int .i64 m, .int .i64 w, .int .i64 l, .int .i64 p, .int .i64 d, .int .i64 o, .int .i64 g] 48) := by
  obtain ⟨t, ht⟩ : ∃ t, t = rnOk ⟨m, w, l, p, d, o, g⟩ := ⟨_, rfl⟩
  rw [← ht]
  cases g1 : inB m 1 10000
  · have k1 := in_not g1
    have hz : t = false := by rw [ht]; exact decide_eq_false (fun k => k1 ⟨k.1, k.2.1⟩)
    subst hz
    clear ht
    go_enter Try.func32, Try.ntmps32
    go_wp2_with (go_at_call 21; refine (in_any _ _ _ _).mono ?_; rintro e w' ⟨rfl, rfl⟩)
    go_ret
    exact ⟨rfl, rfl⟩
  · have k1 := in_of g1
    have hw2 : IntKind.i64.wrap (2 * m) = 2 * m := wr (by omega)
    cases g2 : inB w m 1000000000
    · have k2 := in_not g2
      have hz : t = false := by rw [ht]; exact decide_eq_false (fun k => k2 ⟨k.2.2.1, k.2.2.2.1⟩)
      subst hz
      clear ht
      go_enter Try.func32, Try.ntmps32
      go_wp2_with (go_at_call 21; refine (in_any _ _ _ _).mono ?_; rintro e w' ⟨rfl, rfl⟩)
      go_ret
      exact ⟨rfl, rfl⟩
    · have k2 := in_of g2
      have hw1 : IntKind.i64.wrap (w - 1) = w - 1 := wr (by omega)
      cases g3 : inB l (2 * m) 1000000000
      · have k3 := in_not g3
        have hz : t = false := by rw [ht]; exact decide_eq_false (fun k => k3 ⟨k.2.2.2.2.1, k.2.2.2.2.2.1⟩)
        subst hz
        clear ht
        go_enter Try.func32, Try.ntmps32
        go_wp2_with (go_at_call 21; refine (in_any _ _ _ _).mono ?_; rintro e w' ⟨rfl, rfl⟩)
        go_ret
        exact ⟨rfl, rfl⟩
      · have k3 := in_of g3
        cases g4 : inB o 0 1000000000
        · have k4 := in_not g4
          have hz : t = false := by rw [ht]; exact decide_eq_false (fun k => k4 ⟨k.2.2.2.2.2.2.1, k.2.2.2.2.2.2.2.1⟩)
          subst hz
          clear ht
          go_enter Try.func32, Try.ntmps32
          go_wp2_with (go_at_call 21; refine (in_any _ _ _ _).mono ?_; rintro e w' ⟨rfl, rfl⟩)
          go_ret
          exact ⟨rfl, rfl⟩
        · have k4 := in_of g4
          have HT := Lib.hid ht
          clear ht
          go_enter Try.func32, Try.ntmps32
          go_wp2_with (go_at_call 21; refine (in_any _ _ _ _).mono ?_; rintro e w' ⟨rfl, rfl⟩)
          all_goals
            go_ret
            refine ⟨ret_b ?_, by first | rfl | simp_all⟩
            rw [Bool.eq_iff_iff, HT.out]
            try simp [inB] at *
            simp [rnOk]
            omega

end Go.Proofs.Ytedhemllgpbheaa

