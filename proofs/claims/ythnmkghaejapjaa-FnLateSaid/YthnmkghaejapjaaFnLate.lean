/- Each time nothing came the wait is twice as long, up to the greatest. -/
import Derived.Test.YthnmkghaejapjaaRows
import Derived.Test.YthnmkghaejapjaaRtE
import Derived.WalkKit
import Derived.Deep.RegionHeld3
import Derived.ProofKit
import Derived.OpenShut
import Derived.ShutString
import Derived.ChangeOld
import Derived.Below
import Derived.Lib.SmallJoins
namespace Go.Proofs.Ythnmkghaejapjaa.fnLate
open Go.ChangeShapes Go.WideShapes Go.ChangeAt Go.RowKit Go.Joins
open Go.ChangeMaps (open_string shut_string)
set_option linter.unusedVariables false

theorem own : ownKnob Try.prog.godebug = none := by kernel_rfl
theorem laidOut : laidOutB Try.prog = true := by kernel_rfl


def IsRow (k : IntKind) (w : World) (a : Option Addr) (len cap : Nat) (zs : List Int) : Prop :=
  (a = none ∧ len = 0 ∧ cap = 0 ∧ zs = []) ∨
  ∃ x, a = some x ∧ len ≤ cap ∧ cap ≤ maxLen ∧ zs.length = cap ∧ (∀ i, i < zs.length → w.cell? (x.add i) = some (.int k (zs.getD i 0))) ∧ ∀ n ∈ zs, (Lit.int k n).wf = true

theorem rtL_bd {r : Int} (h : 200 ≤ r) (h1 : r ≤ 60000) : 200 ≤ rtL r ∧ rtL r ≤ 60000 := by
  unfold rtL
  split <;> omega
theorem rtL_ok {h : Bool} {m v r : Int} (k : rtOk h m v r = true) : rtOk h m v (rtL r) = true := by
  have hb := rtL_bd (rt_of k).1 (rt_of k).2.1
  unfold rtOk at k ⊢
  simp only [decide_eq_true_eq] at k ⊢
  omega
theorem late_yes {h : Bool} {m v r : Int} (k : rtOk h m v r = true) : rtLateV h m v r = .agg #[.bool h, .int .i64 m, .int .i64 v, .int .i64 (rtL r)] := if_pos k
theorem late_no {h : Bool} {m v r : Int} (k : rtOk h m v r = false) : rtLateV h m v r = .agg #[.bool false, .int .i64 0, .int .i64 0, .int .i64 0] := if_neg (by rw [k]; decide)
theorem ok_at (h : Bool) (m v r : Int) (w : World) : Calls Try.prog 16 #[.agg #[.bool h, .int .i64 m, .int .i64 v, .int .i64 r]] w fun e w' => e = .returned (.bool (rtOk h m v r)) ∧ w.grownBy w' none :=
  (rt_ok_spec h m v r w).mono fun e w' ⟨a, b⟩ => ⟨a, by rw [b]; exact World.grownBy_alloc _ _ _⟩
theorem oki_at (h : Bool) (m v r : Int) (w : World) : Calls Try.prog 15 #[.agg #[.bool h, .int .i64 m, .int .i64 v, .int .i64 r]] w fun e w' => e = .returned (.bool (rtOk h m v r)) ∧ w.grownBy w' none :=
  (rt_ok_impl h m v r w).mono fun e w' ⟨a, b⟩ => ⟨a, by rw [b]; exact World.grownBy_alloc _ _ _⟩
def Far (j : Nat) (x : Int) : Prop := x = 60000 ∨ 200 * (2 : Int) ^ j ≤ x
theorem far_next {j : Nat} {x : Int} (h : Far j x) (h0 : x ≤ 60000) : Far (j + 1) (rtL x) := by
  unfold Far at h ⊢
  unfold rtL
  rw [Int.pow_succ]
  split
  · exact .inl rfl
  · rcases h with h | h
    · omega
    · exact .inr (by omega)
theorem far_ten {x : Int} (h : Far 10 x) (h0 : x ≤ 60000) : x = 60000 := by
  rcases h with h | h
  · exact h
  · have e : (2 : Int) ^ 10 = 1024 := by decide
    rw [e] at h
    omega

set_option maxRecDepth 100000 in
set_option maxHeartbeats 4000000 in
theorem walk (a0 : Option Addr) (len0 cap0 : Nat) (z0 : List Int) (w : World) (w0 : IsRow .u8 w a0 len0 cap0 z0) :
    Calls Try.prog 4 #[.slice a0 len0 cap0] w fun e w' => e = .returned (.bool true) ∧ Below w.heap.size w w' := by
  have hc := code_of w0
  clear w0
  have HC := Lib.hid hc
  clear hc
  by_cases hbig : 1048576 < len0
  · go_enter Try.func4, Try.ntmps4
    go_wp2_with (go_at_call 9; refine (big_any _ _ _ _).mono ?_; rintro e w' ⟨rfl, rfl⟩)
    go_ret
    exact ⟨rfl, Below.refl _ _⟩
  · go_enter Try.func4, Try.ntmps4
    go_wp2_with (go_at_call 9; refine (big_any _ _ _ _).mono ?_; rintro e w' ⟨rfl, rfl⟩)
    refine (draw_late _ _ _ _ HC.out).mono ?_
    rintro e w1 ⟨h, m, v, q, rfl, hg⟩
    have H1 := Lib.hid (And.intro (grownBy_trans hg (World.grownBy_alloc w1 (.cells #[.bool h, .int .i64 m, .int .i64 v, .int .i64 q] 25) none)) (Box4.new w1 25 (.bool h) (.int .i64 m) (.int .i64 v) (.int .i64 q)))
    have hle1 : w.heap.size ≤ w1.heap.size := hg.size
    clear hg HC
    go_wp2_with fail
    refine (rt_late_impl h m v q _).mono ?_
    rintro e w2 ⟨rfl, hg⟩
    have H2 := Lib.hid (And.intro (grownBy_trans H1.out.1 hg) (H1.out.2.kept hg (by simp)))
    have hlt := H2.out.2.lt
    clear hg H1
    generalize hB : w1.heap.size = B at *
    clear hB
    cases k : rtOk h m v q
    · rw [late_no k]
      have hlate := fun w => rt_late_spec h m v q w
      rw [late_no k] at hlate
      have hok := fun w => ok_at h m v q w
      rw [k] at hok
      have HLA := Lib.hid hlate
      have HOK := Lib.hid hok
      clear hlate hok
      have H3 := Lib.hid (And.intro (grownBy_trans H2.out.1 (World.grownBy_alloc w2 (.cells #[.bool false, .int .i64 0, .int .i64 0, .int .i64 0] 25) none)) (And.intro (H2.out.2.alloc (.cells #[.bool false, .int .i64 0, .int .i64 0, .int .i64 0] 25)) (Box4.new w2 25 (.bool false) (.int .i64 0) (.int .i64 0) (.int .i64 0))))
      clear H2
      go_wp2_with fail
      generalize hW : w2.alloc (.cells #[.bool false, .int .i64 0, .int .i64 0, .int .i64 0] 25) = W at *
      generalize hE : w2.heap.size = E at *
      clear hW hE
      have c0 := H3.out.2.1.c0
      have c1 := H3.out.2.1.c1
      have c2 := H3.out.2.1.c2
      have c3 := H3.out.2.1.c3
      have d0 := H3.out.2.2.c0
      have d1 := H3.out.2.2.c1
      have d2 := H3.out.2.2.c2
      have d3 := H3.out.2.2.c3
      go_region_held3 (fun w' => w'.cell? ⟨B, 0, none⟩ = some (.bool h) ∧ w'.cell? ⟨B, 1, none⟩ = some (.int .i64 m) ∧ w'.cell? ⟨B, 2, none⟩ = some (.int .i64 v) ∧ w'.cell? ⟨B, 3, none⟩ = some (.int .i64 q) ∧ w'.cell? ⟨E, 0, none⟩ = some (.bool false) ∧ w'.cell? ⟨E, 1, none⟩ = some (.int .i64 0) ∧ w'.cell? ⟨E, 2, none⟩ = some (.int .i64 0) ∧ w'.cell? ⟨E, 3, none⟩ = some (.int .i64 0) ∧ W.grownBy w' none) ((refine ⟨by first | with_reducible assumption | (go_simp; done) | (simp [*]; done), by first | with_reducible assumption | (go_simp; done) | (simp [*]; done), by first | with_reducible assumption | (go_simp; done) | (simp [*]; done), by first | with_reducible assumption | (go_simp; done) | (simp [*]; done), by first | with_reducible assumption | (go_simp; done) | (simp [*]; done), by first | with_reducible assumption | (go_simp; done) | (simp [*]; done), by first | with_reducible assumption | (go_simp; done) | (simp [*]; done), by first | with_reducible assumption | (go_simp; done) | (simp [*]; done), by first | with_reducible assumption | exact grownBy_drew | exact grownBy_trans (by with_reducible assumption) grownBy_drew | exact grownBy_trans (by with_reducible assumption) (by with_reducible assumption) | exact World.grownBy.refl _ _⟩)) (first | (go_at_call 18; refine (HLA.out _).mono ?_; rintro e w9 ⟨rfl, hg⟩; have q0 := hg.cell (a := ⟨B, 0, none⟩) (v := .bool h) (by first | with_reducible assumption | (go_simp; done) | (simp [*]; done)) (by simp); have q1 := hg.cell (a := ⟨B, 1, none⟩) (v := .int .i64 m) (by first | with_reducible assumption | (go_simp; done) | (simp [*]; done)) (by simp); have q2 := hg.cell (a := ⟨B, 2, none⟩) (v := .int .i64 v) (by first | with_reducible assumption | (go_simp; done) | (simp [*]; done)) (by simp); have q3 := hg.cell (a := ⟨B, 3, none⟩) (v := .int .i64 q) (by first | with_reducible assumption | (go_simp; done) | (simp [*]; done)) (by simp); have q4 := hg.cell (a := ⟨E, 0, none⟩) (v := .bool false) (by first | with_reducible assumption | (go_simp; done) | (simp [*]; done)) (by simp); have q5 := hg.cell (a := ⟨E, 1, none⟩) (v := .int .i64 0) (by first | with_reducible assumption | (go_simp; done) | (simp [*]; done)) (by simp); have q6 := hg.cell (a := ⟨E, 2, none⟩) (v := .int .i64 0) (by first | with_reducible assumption | (go_simp; done) | (simp [*]; done)) (by simp); have q7 := hg.cell (a := ⟨E, 3, none⟩) (v := .int .i64 0) (by first | with_reducible assumption | (go_simp; done) | (simp [*]; done)) (by simp); have qg := grownBy_trans (a := W) (by first | with_reducible assumption | exact grownBy_drew | exact grownBy_trans (by with_reducible assumption) grownBy_drew | exact World.grownBy.refl _ _) hg) | (go_at_call 16; refine (HOK.out _).mono ?_; rintro e w9 ⟨rfl, hg⟩; have q0 := hg.cell (a := ⟨B, 0, none⟩) (v := .bool h) (by first | with_reducible assumption | (go_simp; done) | (simp [*]; done)) (by simp); have q1 := hg.cell (a := ⟨B, 1, none⟩) (v := .int .i64 m) (by first | with_reducible assumption | (go_simp; done) | (simp [*]; done)) (by simp); have q2 := hg.cell (a := ⟨B, 2, none⟩) (v := .int .i64 v) (by first | with_reducible assumption | (go_simp; done) | (simp [*]; done)) (by simp); have q3 := hg.cell (a := ⟨B, 3, none⟩) (v := .int .i64 q) (by first | with_reducible assumption | (go_simp; done) | (simp [*]; done)) (by simp); have q4 := hg.cell (a := ⟨E, 0, none⟩) (v := .bool false) (by first | with_reducible assumption | (go_simp; done) | (simp [*]; done)) (by simp); have q5 := hg.cell (a := ⟨E, 1, none⟩) (v := .int .i64 0) (by first | with_reducible assumption | (go_simp; done) | (simp [*]; done)) (by simp); have q6 := hg.cell (a := ⟨E, 2, none⟩) (v := .int .i64 0) (by first | with_reducible assumption | (go_simp; done) | (simp [*]; done)) (by simp); have q7 := hg.cell (a := ⟨E, 3, none⟩) (v := .int .i64 0) (by first | with_reducible assumption | (go_simp; done) | (simp [*]; done)) (by simp); have qg := grownBy_trans (a := W) (by first | with_reducible assumption | exact grownBy_drew | exact grownBy_trans (by with_reducible assumption) grownBy_drew | exact World.grownBy.refl _ _) hg))
      rename_i hH
      have H5 := Lib.hid (And.intro (grownBy_trans H3.out.1 hH.2.2.2.2.2.2.2.2) (And.intro (H3.out.2.1.kept hH.2.2.2.2.2.2.2.2 (by simp)) (H3.out.2.2.kept hH.2.2.2.2.2.2.2.2 (by simp))))
      clear hH H3 qg hg c0 c1 c2 c3 d0 d1 d2 d3 q0 q1 q2 q3 q4 q5 q6 q7
      have c0 := H5.out.2.1.c0
      have c1 := H5.out.2.1.c1
      have c2 := H5.out.2.1.c2
      have c3 := H5.out.2.1.c3
      have d0 := H5.out.2.2.c0
      have d1 := H5.out.2.2.c1
      have d2 := H5.out.2.2.c2
      have d3 := H5.out.2.2.c3
      go_wp2_with fail
      go_region_held3 (fun w' => w'.cell? ⟨B, 0, none⟩ = some (.bool h) ∧ w'.cell? ⟨B, 1, none⟩ = some (.int .i64 m) ∧ w'.cell? ⟨B, 2, none⟩ = some (.int .i64 v) ∧ w'.cell? ⟨B, 3, none⟩ = some (.int .i64 q) ∧ w'.cell? ⟨E, 0, none⟩ = some (.bool false) ∧ w'.cell? ⟨E, 1, none⟩ = some (.int .i64 0) ∧ w'.cell? ⟨E, 2, none⟩ = some (.int .i64 0) ∧ w'.cell? ⟨E, 3, none⟩ = some (.int .i64 0) ∧ w9.grownBy w' none) ((refine ⟨by first | with_reducible assumption | (go_simp; done) | (simp [*]; done), by first | with_reducible assumption | (go_simp; done) | (simp [*]; done), by first | with_reducible assumption | (go_simp; done) | (simp [*]; done), by first | with_reducible assumption | (go_simp; done) | (simp [*]; done), by first | with_reducible assumption | (go_simp; done) | (simp [*]; done), by first | with_reducible assumption | (go_simp; done) | (simp [*]; done), by first | with_reducible assumption | (go_simp; done) | (simp [*]; done), by first | with_reducible assumption | (go_simp; done) | (simp [*]; done), by first | with_reducible assumption | exact grownBy_drew | exact grownBy_trans (by with_reducible assumption) grownBy_drew | exact grownBy_trans (by with_reducible assumption) (by with_reducible assumption) | exact World.grownBy.refl _ _⟩)) (first | (go_at_call 18; refine (HLA.out _).mono ?_; rintro e w10 ⟨rfl, hg⟩; have q0 := hg.cell (a := ⟨B, 0, none⟩) (v := .bool h) (by first | with_reducible assumption | (go_simp; done) | (simp [*]; done)) (by simp); have q1 := hg.cell (a := ⟨B, 1, none⟩) (v := .int .i64 m) (by first | with_reducible assumption | (go_simp; done) | (simp [*]; done)) (by simp); have q2 := hg.cell (a := ⟨B, 2, none⟩) (v := .int .i64 v) (by first | with_reducible assumption | (go_simp; done) | (simp [*]; done)) (by simp); have q3 := hg.cell (a := ⟨B, 3, none⟩) (v := .int .i64 q) (by first | with_reducible assumption | (go_simp; done) | (simp [*]; done)) (by simp); have q4 := hg.cell (a := ⟨E, 0, none⟩) (v := .bool false) (by first | with_reducible assumption | (go_simp; done) | (simp [*]; done)) (by simp); have q5 := hg.cell (a := ⟨E, 1, none⟩) (v := .int .i64 0) (by first | with_reducible assumption | (go_simp; done) | (simp [*]; done)) (by simp); have q6 := hg.cell (a := ⟨E, 2, none⟩) (v := .int .i64 0) (by first | with_reducible assumption | (go_simp; done) | (simp [*]; done)) (by simp); have q7 := hg.cell (a := ⟨E, 3, none⟩) (v := .int .i64 0) (by first | with_reducible assumption | (go_simp; done) | (simp [*]; done)) (by simp); have qg := grownBy_trans (a := w9) (by first | with_reducible assumption | exact grownBy_drew | exact grownBy_trans (by with_reducible assumption) grownBy_drew | exact World.grownBy.refl _ _) hg) | (go_at_call 16; refine (HOK.out _).mono ?_; rintro e w10 ⟨rfl, hg⟩; have q0 := hg.cell (a := ⟨B, 0, none⟩) (v := .bool h) (by first | with_reducible assumption | (go_simp; done) | (simp [*]; done)) (by simp); have q1 := hg.cell (a := ⟨B, 1, none⟩) (v := .int .i64 m) (by first | with_reducible assumption | (go_simp; done) | (simp [*]; done)) (by simp); have q2 := hg.cell (a := ⟨B, 2, none⟩) (v := .int .i64 v) (by first | with_reducible assumption | (go_simp; done) | (simp [*]; done)) (by simp); have q3 := hg.cell (a := ⟨B, 3, none⟩) (v := .int .i64 q) (by first | with_reducible assumption | (go_simp; done) | (simp [*]; done)) (by simp); have q4 := hg.cell (a := ⟨E, 0, none⟩) (v := .bool false) (by first | with_reducible assumption | (go_simp; done) | (simp [*]; done)) (by simp); have q5 := hg.cell (a := ⟨E, 1, none⟩) (v := .int .i64 0) (by first | with_reducible assumption | (go_simp; done) | (simp [*]; done)) (by simp); have q6 := hg.cell (a := ⟨E, 2, none⟩) (v := .int .i64 0) (by first | with_reducible assumption | (go_simp; done) | (simp [*]; done)) (by simp); have q7 := hg.cell (a := ⟨E, 3, none⟩) (v := .int .i64 0) (by first | with_reducible assumption | (go_simp; done) | (simp [*]; done)) (by simp); have qg := grownBy_trans (a := w9) (by first | with_reducible assumption | exact grownBy_drew | exact grownBy_trans (by with_reducible assumption) grownBy_drew | exact World.grownBy.refl _ _) hg))
      rename_i hH
      have HG := Lib.hid (grownBy_trans H5.out.1 hH.2.2.2.2.2.2.2.2)
      clear hH H5 qg hg c0 c1 c2 c3 d0 d1 d2 d3 q0 q1 q2 q3 q4 q5 q6 q7
      go_wp2_with fail
      go_ret
      exact ⟨rfl, below_new HG.out⟩
    · rw [late_yes k]
      have kb := rt_of k
      have hQ := rtL_bd kb.1 kb.2.1
      have HQ := Lib.hid (rtL_ok k)
      have HFar := Lib.hid (show Far 0 q from .inr (by have := kb.1; simpa using this))
      have hlate := fun w => rt_late_spec h m v q w
      rw [late_yes k] at hlate
      generalize rtL q = Q at *
      have hok := fun w => ok_at h m v q w
      rw [k] at hok
      have HLA := Lib.hid hlate
      have HOK := Lib.hid hok
      clear hlate hok
      have H3 := Lib.hid (And.intro (grownBy_trans H2.out.1 (World.grownBy_alloc w2 (.cells #[.bool h, .int .i64 m, .int .i64 v, .int .i64 Q] 25) none)) (And.intro (H2.out.2.alloc (.cells #[.bool h, .int .i64 m, .int .i64 v, .int .i64 Q] 25)) (Box4.new w2 25 (.bool h) (.int .i64 m) (.int .i64 v) (.int .i64 Q))))
      clear H2
      go_wp2_with fail
      generalize hW : w2.alloc (.cells #[.bool h, .int .i64 m, .int .i64 v, .int .i64 Q] 25) = W at *
      generalize hE : w2.heap.size = E at *
      clear hW hE
      have c0 := H3.out.2.1.c0
      have c1 := H3.out.2.1.c1
      have c2 := H3.out.2.1.c2
      have c3 := H3.out.2.1.c3
      have d0 := H3.out.2.2.c0
      have d1 := H3.out.2.2.c1
      have d2 := H3.out.2.2.c2
      have d3 := H3.out.2.2.c3
      go_region_held3 (fun w' => w'.cell? ⟨B, 0, none⟩ = some (.bool h) ∧ w'.cell? ⟨B, 1, none⟩ = some (.int .i64 m) ∧ w'.cell? ⟨B, 2, none⟩ = some (.int .i64 v) ∧ w'.cell? ⟨B, 3, none⟩ = some (.int .i64 q) ∧ w'.cell? ⟨E, 0, none⟩ = some (.bool h) ∧ w'.cell? ⟨E, 1, none⟩ = some (.int .i64 m) ∧ w'.cell? ⟨E, 2, none⟩ = some (.int .i64 v) ∧ w'.cell? ⟨E, 3, none⟩ = some (.int .i64 Q) ∧ W.grownBy w' none) ((refine ⟨by first | with_reducible assumption | (go_simp; done) | (simp [*]; done), by first | with_reducible assumption | (go_simp; done) | (simp [*]; done), by first | with_reducible assumption | (go_simp; done) | (simp [*]; done), by first | with_reducible assumption | (go_simp; done) | (simp [*]; done), by first | with_reducible assumption | (go_simp; done) | (simp [*]; done), by first | with_reducible assumption | (go_simp; done) | (simp [*]; done), by first | with_reducible assumption | (go_simp; done) | (simp [*]; done), by first | with_reducible assumption | (go_simp; done) | (simp [*]; done), by first | with_reducible assumption | exact grownBy_drew | exact grownBy_trans (by with_reducible assumption) grownBy_drew | exact grownBy_trans (by with_reducible assumption) (by with_reducible assumption) | exact World.grownBy.refl _ _⟩)) (first | (go_at_call 18; refine (HLA.out _).mono ?_; rintro e w9 ⟨rfl, hg⟩; have q0 := hg.cell (a := ⟨B, 0, none⟩) (v := .bool h) (by first | with_reducible assumption | (go_simp; done) | (simp [*]; done)) (by simp); have q1 := hg.cell (a := ⟨B, 1, none⟩) (v := .int .i64 m) (by first | with_reducible assumption | (go_simp; done) | (simp [*]; done)) (by simp); have q2 := hg.cell (a := ⟨B, 2, none⟩) (v := .int .i64 v) (by first | with_reducible assumption | (go_simp; done) | (simp [*]; done)) (by simp); have q3 := hg.cell (a := ⟨B, 3, none⟩) (v := .int .i64 q) (by first | with_reducible assumption | (go_simp; done) | (simp [*]; done)) (by simp); have q4 := hg.cell (a := ⟨E, 0, none⟩) (v := .bool h) (by first | with_reducible assumption | (go_simp; done) | (simp [*]; done)) (by simp); have q5 := hg.cell (a := ⟨E, 1, none⟩) (v := .int .i64 m) (by first | with_reducible assumption | (go_simp; done) | (simp [*]; done)) (by simp); have q6 := hg.cell (a := ⟨E, 2, none⟩) (v := .int .i64 v) (by first | with_reducible assumption | (go_simp; done) | (simp [*]; done)) (by simp); have q7 := hg.cell (a := ⟨E, 3, none⟩) (v := .int .i64 Q) (by first | with_reducible assumption | (go_simp; done) | (simp [*]; done)) (by simp); have qg := grownBy_trans (a := W) (by first | with_reducible assumption | exact grownBy_drew | exact grownBy_trans (by with_reducible assumption) grownBy_drew | exact World.grownBy.refl _ _) hg) | (go_at_call 16; refine (HOK.out _).mono ?_; rintro e w9 ⟨rfl, hg⟩; have q0 := hg.cell (a := ⟨B, 0, none⟩) (v := .bool h) (by first | with_reducible assumption | (go_simp; done) | (simp [*]; done)) (by simp); have q1 := hg.cell (a := ⟨B, 1, none⟩) (v := .int .i64 m) (by first | with_reducible assumption | (go_simp; done) | (simp [*]; done)) (by simp); have q2 := hg.cell (a := ⟨B, 2, none⟩) (v := .int .i64 v) (by first | with_reducible assumption | (go_simp; done) | (simp [*]; done)) (by simp); have q3 := hg.cell (a := ⟨B, 3, none⟩) (v := .int .i64 q) (by first | with_reducible assumption | (go_simp; done) | (simp [*]; done)) (by simp); have q4 := hg.cell (a := ⟨E, 0, none⟩) (v := .bool h) (by first | with_reducible assumption | (go_simp; done) | (simp [*]; done)) (by simp); have q5 := hg.cell (a := ⟨E, 1, none⟩) (v := .int .i64 m) (by first | with_reducible assumption | (go_simp; done) | (simp [*]; done)) (by simp); have q6 := hg.cell (a := ⟨E, 2, none⟩) (v := .int .i64 v) (by first | with_reducible assumption | (go_simp; done) | (simp [*]; done)) (by simp); have q7 := hg.cell (a := ⟨E, 3, none⟩) (v := .int .i64 Q) (by first | with_reducible assumption | (go_simp; done) | (simp [*]; done)) (by simp); have qg := grownBy_trans (a := W) (by first | with_reducible assumption | exact grownBy_drew | exact grownBy_trans (by with_reducible assumption) grownBy_drew | exact World.grownBy.refl _ _) hg))
      rename_i hH
      have H5 := Lib.hid (And.intro (grownBy_trans H3.out.1 hH.2.2.2.2.2.2.2.2) (And.intro (H3.out.2.1.kept hH.2.2.2.2.2.2.2.2 (by simp)) (H3.out.2.2.kept hH.2.2.2.2.2.2.2.2 (by simp))))
      clear hH H3 qg hg c0 c1 c2 c3 d0 d1 d2 d3 q0 q1 q2 q3 q4 q5 q6 q7
      go_wp2_with fail
      go_loopw [5] (fun i wr => ∃ (j : Nat) (x : Int), j ≤ 10 ∧ i = .int .i64 (j : Nat) ∧ rtOk h m v x = true ∧ Far j x ∧ w.grownBy wr none ∧ Box4 wr B 25 (.bool h) (.int .i64 m) (.int .i64 v) (.int .i64 x) ∧ Box4 wr E 25 (.bool h) (.int .i64 m) (.int .i64 v) (.int .i64 Q)) (fun i _ => 10 - (intOf i).toNat)
      case atStart => exact ⟨0, q, by omega, rfl, k, HFar.out, H5.out⟩
      case round =>
        obtain ⟨j, x, hj, rfl, hx, hf, hs⟩ := hrel
        have HX := Lib.hid (And.intro hx hf)
        have hxb := rt_of hx
        have H6 := Lib.hid hs
        clear H5 HFar hx hf hs
        by_cases hj10 : j = 10
        · subst hj10
          have hx60 := far_ten HX.out.2 hxb.2.1
          subst hx60
          have c0 := H6.out.2.1.c0
          have c1 := H6.out.2.1.c1
          have c2 := H6.out.2.1.c2
          have c3 := H6.out.2.1.c3
          have d0 := H6.out.2.2.c0
          have d1 := H6.out.2.2.c1
          have d2 := H6.out.2.2.c2
          have d3 := H6.out.2.2.c3
          go_wp2_with fail
          refine (oki_at h m v Q _).mono ?_
          rintro e w11 ⟨rfl, hg⟩
          rw [HQ.out]
          have H7 := Lib.hid (And.intro (grownBy_trans H6.out.1 hg) (And.intro (H6.out.2.1.kept hg (by simp)) (H6.out.2.2.kept hg (by simp))))
          clear hg c0 c1 c2 c3 d0 d1 d2 d3
          have c0 := H7.out.2.1.c0
          have c1 := H7.out.2.1.c1
          have c2 := H7.out.2.1.c2
          have c3 := H7.out.2.1.c3
          have d0 := H7.out.2.2.c0
          have d1 := H7.out.2.2.c1
          have d2 := H7.out.2.2.c2
          have d3 := H7.out.2.2.c3
          have h58 : 58 ≤ Q := by omega
          go_wp2_with fail
          go_ret
          exact ⟨by first | rfl | (simp; done) | (simp; omega), below_new H7.out.1⟩
        · have hjl : j < 10 := by omega
          have c0 := H6.out.2.1.c0
          have c1 := H6.out.2.1.c1
          have c2 := H6.out.2.1.c2
          have c3 := H6.out.2.1.c3
          go_wp2_with fail
          refine (rt_late_impl h m v x _).mono ?_
          rintro e w11 ⟨rfl, hg⟩
          rw [late_yes HX.out.1]
          have H7 := Lib.hid (And.intro (grownBy_trans H6.out.1 hg) (And.intro (H6.out.2.1.kept hg (by simp)) (H6.out.2.2.kept hg (by simp))))
          clear hg c0 c1 c2 c3
          have c0 := H7.out.2.1.c0
          have c1 := H7.out.2.1.c1
          have c2 := H7.out.2.1.c2
          have c3 := H7.out.2.1.c3
          have f0 := H7.out.2.1.f0 0
          have f1 := H7.out.2.1.f0 1
          have f2 := H7.out.2.1.f0 2
          have f3 := H7.out.2.1.f0 3
          go_wp2_with fail
          go_roundw
          case rel => exact ⟨j + 1, rtL x, by omega, by go_num, rtL_ok HX.out.1, far_next HX.out.2 hxb.2.1, grown_set (grown_set (grown_set (grown_set H7.out.1 hle1 _ _) hle1 _ _) hle1 _ _) hle1 _ _, H7.out.2.1.set _ _ _ _, H7.out.2.2.other (by omega) _ _ _ _⟩
          case measure => first | (simp [intOf]; done) | (simp [intOf]; omega)

set_option maxRecDepth 100000 in
theorem lifted (os : Os) (started : os.Started) (H : Type) (enc : TypeId × Value → H) :
    ReturnsInHanded {} Try.checked os 4 .any (Rows.fnLateSpec.pre6 enc Try.prog Try.f4 Rows.fnLateRow.domain false) (Rows.fnLateSpec.post enc Try.prog Try.f4 false true false false) := by
  refine returnsInHanded_of_change (C := Try.checked) own started (by kernel_rfl) Try.func4
    (ChangeSpec.witness6 (enc := enc) (C := Try.checked) false ⟨#[], #[.slice none 0 0], []⟩ 8 (by kernel_rfl) (by kernel_rfl) (by kernel_rfl) (by kernel_rfl)) ?_
  intro W base args ds gs before hval0 hW hcnd _
  have hval : ∀ (j : Nat) t v, Try.f4.params[j]? = some t → args[j]? = some v → Value.okWide Try.prog W .any base t v := hval0
  have hW' := hW
  obtain ⟨p, q, hA0, hV, rfl, hfz, hnd⟩ := hW
  have hA : DataW.TrodAll enc Try.prog W 0 (fun _ => true) true Try.f4.params.toList args.toList ds p := hA0
  rw [Try.params4] at hA hval
  obtain ⟨v0, vs0, d0, ds0, p0, q0, hargs, rfl, rfl, h0, r0⟩ := trodAll_cons hA
  obtain ⟨rfl, rfl, rfl⟩ := trodAll_nil r0
  obtain rfl : args = #[v0] := by cases args; simp_all
  obtain ⟨rfl, rfl⟩ := trodVars_none hV
  have k0 := h0
  have lt0 : ∀ x ∈ p0, x.block < W.heap.size := by obtain ⟨m, hm⟩ := k0; exact DataW.trod_lt m _ _ _ hm
  obtain ⟨a0, len0, cap0, rfl⟩ := okWide_slice Try.underlying22 (hval 0 22 v0 rfl rfl)
  obtain ⟨z0, w0⟩ : ∃ zs, IsRow .u8 W a0 len0 cap0 zs := by
    obtain ⟨fuel, hf⟩ := h0
    rcases open_ints Try.underlying22 Try.underlying5 (by kernel_rfl) hf with ⟨hcs, _⟩ | ⟨x, l, c, zs, hcs, _, hl, hm, hz, _, hcell, hwz⟩
    · simp [Value.cells] at hcs
      obtain ⟨rfl, rfl, rfl⟩ := hcs
      exact ⟨[], .inl ⟨rfl, rfl, rfl, rfl⟩⟩
    · simp [Value.cells] at hcs
      obtain ⟨rfl, rfl, rfl⟩ := hcs
      exact ⟨zs, .inr ⟨_, rfl, hl, hm, by simpa using hz, hcell, hwz⟩⟩
  clear hA0 hval0
  refine (walk a0 len0 cap0 z0 W w0).mono fun e W' ⟨he, bel⟩ => ?_
  subst he
  exact ⟨_, rfl, _, _, _, [], _, [], hW', trodAll_mk1 (shut_bool Try.underlying4 _), (trodAll_cons_mk (Below.trod laidOut (by kernel_rfl) (of_decide_eq_true (by kernel_rfl)) k0 bel lt0) trodAll_mk0), rfl, bel.frame _, fun h => by cases h⟩

theorem over : Rows.fnLateRow.holds Try.pinned (OpenSpec.ofChange Rows.fnLateSpec) :=
  OpenClaim.holds_of_wide 4 Try.f4 rfl rfl rfl rfl rfl rfl rfl ⟨rfl, rfl, rfl, rfl, rfl⟩ rfl rfl rfl rfl rfl (by kernel_rfl) Try.func4 (by kernel_rfl)
    (of_decide_eq_true (by kernel_rfl)) (by unfold Func.isWrapper; first | (rw [if_pos (by decide +kernel)]; kernel_rfl) | (rw [if_neg (by decide +kernel)]; exact ⟨rfl, rfl⟩))
    (fun os started H enc _ => lifted os started H enc)

theorem proved : Rows.FnLateSaid := over
end Go.Proofs.Ythnmkghaejapjaa.fnLate
