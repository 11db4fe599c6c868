/- For every drawn clock and measure the law FnRtt answers true; no condition. -/
import Derived.Test.YthnmkghaejapjaaRows
import Derived.Test.YthnmkghaejapjaaRtE
import Derived.Test.YthnmkghaejapjaaDraw
import Derived.Test.YthnmkghaejapjaaRtX
import Derived.WalkKit
import Derived.ProofKit
import Derived.OpenShut
import Derived.ShutString
import Derived.ChangeOld
import Derived.Below
import Derived.Lib.SmallJoins
namespace Go.Proofs.Ythnmkghaejapjaa.fnRtt
open Go.ChangeShapes Go.WideShapes Go.ChangeAt Go.RowKit Go.Joins
open Go.ChangeMaps (open_string shut_string)
set_option linter.unusedVariables false

theorem own : ownKnob Try.prog.godebug = none := by kernel_rfl
theorem laidOut : laidOutB Try.prog = true := by kernel_rfl


def IsRow (k : IntKind) (w : World) (a : Option Addr) (len cap : Nat) (zs : List Int) : Prop :=
  (a = none ∧ len = 0 ∧ cap = 0 ∧ zs = []) ∨
  ∃ x, a = some x ∧ len ≤ cap ∧ cap ≤ maxLen ∧ zs.length = cap ∧ (∀ i, i < zs.length → w.cell? (x.add i) = some (.int k (zs.getD i 0))) ∧ ∀ n ∈ zs, (Lit.int k n).wf = true

theorem step_yes {h : Bool} {m v r ms M V S : Int} (k : rtOk h m v r = true) (k2 : inB ms 0 60000 = true) (hM : rtM h m ms = M) (hV : rtV h m v ms = V) (hS : rtR M V = S) : rtStepV h m v r ms = .agg #[.bool true, .int .i64 M, .int .i64 V, .int .i64 S] := by
  unfold rtStepV
  rw [if_pos ⟨k, in_of k2⟩]
  unfold rtOn
  rw [hM, hV, hS]
  rfl
theorem step_no {h : Bool} {m v r ms : Int} (k : rtOk h m v r = false ∨ inB ms 0 60000 = false) : rtStepV h m v r ms = .agg #[.bool false, .int .i64 0, .int .i64 0, .int .i64 0] := by
  refine if_neg (fun q => ?_)
  rcases k with k | k
  · rw [k] at q; simp at q
  · exact in_not k q.2
theorem oks_at (h : Bool) (m v r : Int) (w : World) : Calls Try.prog 16 #[.agg #[.bool h, .int .i64 m, .int .i64 v, .int .i64 r]] w fun e w' => e = .returned (.bool (rtOk h m v r)) ∧ w.grownBy w' none :=
  (rt_ok_spec h m v r w).mono fun e w' ⟨a, b⟩ => ⟨a, by rw [b]; exact World.grownBy_alloc _ _ _⟩
theorem oki_at (h : Bool) (m v r : Int) (w : World) : Calls Try.prog 15 #[.agg #[.bool h, .int .i64 m, .int .i64 v, .int .i64 r]] w fun e w' => e = .returned (.bool (rtOk h m v r)) ∧ w.grownBy w' none :=
  (rt_ok_impl h m v r w).mono fun e w' ⟨a, b⟩ => ⟨a, by rw [b]; exact World.grownBy_alloc _ _ _⟩
theorem late_form (h : Bool) (m v r : Int) : ∃ (h' : Bool) (m' v' r' : Int), rtLateV h m v r = .agg #[.bool h', .int .i64 m', .int .i64 v', .int .i64 r'] := by
  unfold rtLateV
  split
  · exact ⟨_, _, _, _, rfl⟩
  · exact ⟨_, _, _, _, rfl⟩
def absI (d : Int) : Int := if d < 0 then -d else d
set_option maxRecDepth 100000 in
theorem sign_at (d : Int) (w : World) (h : -1000000 ≤ d ∧ d ≤ 1000000) : Calls Try.prog 21 #[.int .i64 d] w fun e w' => e = .returned (.int .i64 (absI d)) ∧ w' = w := by
  have hw : IntKind.i64.wrap (-d) = -d := IntWalk.i64_in _ (by omega)
  go_enter Try.func21, Try.ntmps21
  go_wp2
  all_goals
    go_ret
    refine ⟨ret_i ?_, rfl⟩
    unfold absI
    split <;> omega
theorem nearer (m ms : Int) (h0 : 0 ≤ m) : absI (ms - rtM true m ms / 8) ≤ absI (ms - m / 8) := by
  unfold absI rtM
  rw [if_pos rfl]
  split <;> split <;> omega
theorem wait_facts (M V : Int) : 200 ≤ rtR M V ∧ rtR M V ≤ 60000 ∧ (rtR M V = 60000 ∨ M / 8 ≤ rtR M V) := by
  unfold rtR
  repeat' split
  all_goals omega

set_option maxRecDepth 100000 in
set_option maxHeartbeats 8000000 in
theorem walk (a0 : Option Addr) (len0 cap0 : Nat) (z0 : List Int) (w : World) (w0 : IsRow .u8 w a0 len0 cap0 z0) :
    Calls Try.prog 3 #[.slice a0 len0 cap0] w fun e w' => e = .returned (.bool true) ∧ Below w.heap.size w w' := by
  have hc := code_of w0
  clear w0
  have HC := Lib.hid hc
  clear hc
  by_cases hbig : 1048576 < len0
  · go_enter Try.func3, Try.ntmps3
    go_wp2_with (go_at_call 9; refine (big_any _ _ _ _).mono ?_; rintro e w' ⟨rfl, rfl⟩)
    go_ret
    exact ⟨rfl, Below.refl _ _⟩
  · go_enter Try.func3, Try.ntmps3
    go_wp2_with (go_at_call 9; refine (big_any _ _ _ _).mono ?_; rintro e w' ⟨rfl, rfl⟩)
    refine (draw_step _ _ _ _ HC.out).mono ?_
    rintro e w1 ⟨h, m, v, q, ms, rfl, hms, hg⟩
    have HMS := Lib.hid hms
    have H1 := Lib.hid (And.intro (grownBy_trans hg (World.grownBy_alloc w1 (.cells #[.bool h, .int .i64 m, .int .i64 v, .int .i64 q] 25) none)) (And.intro ((HC.out.kept hg).kept (World.grownBy_alloc w1 (.cells #[.bool h, .int .i64 m, .int .i64 v, .int .i64 q] 25) none)) (Box4.new w1 25 (.bool h) (.int .i64 m) (.int .i64 v) (.int .i64 q))))
    clear hg HC hms
    obtain ⟨n0, n1, n2, n3, hN⟩ := step_form h m v q ms
    have HN := Lib.hid hN
    have hst := fun w => rt_step_impl h m v q ms w
    rw [hN] at hst
    have HST := Lib.hid hst
    have hst := fun w => rt_step_spec h m v q ms w
    rw [hN] at hst
    have HSS := Lib.hid hst
    clear hN hst
    go_wp2_with fail
    refine (HST.out _).mono ?_
    rintro e w2 ⟨rfl, hg⟩
    have H2 := Lib.hid (And.intro (grownBy_trans H1.out.1 (grownBy_trans hg (World.grownBy_alloc w2 (.cells #[.bool n0, .int .i64 n1, .int .i64 n2, .int .i64 n3] 25) none))) (And.intro ((H1.out.2.1.kept hg).kept (World.grownBy_alloc w2 (.cells #[.bool n0, .int .i64 n1, .int .i64 n2, .int .i64 n3] 25) none)) (And.intro ((H1.out.2.2.kept hg (by simp)).alloc (.cells #[.bool n0, .int .i64 n1, .int .i64 n2, .int .i64 n3] 25)) (Box4.new w2 25 (.bool n0) (.int .i64 n1) (.int .i64 n2) (.int .i64 n3)))))
    generalize hB : w1.heap.size = B at *
    clear hg H1 hB HST
    go_wp2_with fail
    refine (draw_ok _ _ _ _ H2.out.2.1).mono ?_
    rintro e w3 ⟨xh, xm, xv, xq, rfl, hg⟩
    have H3 := Lib.hid (And.intro (grownBy_trans H2.out.1 (grownBy_trans hg (World.grownBy_alloc w3 (.cells #[.bool xh, .int .i64 xm, .int .i64 xv, .int .i64 xq] 25) none))) (And.intro ((H2.out.2.1.kept hg).kept (World.grownBy_alloc w3 (.cells #[.bool xh, .int .i64 xm, .int .i64 xv, .int .i64 xq] 25) none)) (And.intro ((H2.out.2.2.1.kept hg (by simp)).alloc (.cells #[.bool xh, .int .i64 xm, .int .i64 xv, .int .i64 xq] 25)) (And.intro ((H2.out.2.2.2.kept hg (by simp)).alloc (.cells #[.bool xh, .int .i64 xm, .int .i64 xv, .int .i64 xq] 25)) (Box4.new w3 25 (.bool xh) (.int .i64 xm) (.int .i64 xv) (.int .i64 xq))))))
    generalize hB : w2.heap.size = C at *
    clear hg H2 hB
    go_wp2_with fail
    refine (draw_late _ _ _ _ H3.out.2.1).mono ?_
    rintro e w4 ⟨lh, lm, lv, lq, rfl, hg⟩
    have H4 := Lib.hid (And.intro (grownBy_trans H3.out.1 (grownBy_trans hg (World.grownBy_alloc w4 (.cells #[.bool lh, .int .i64 lm, .int .i64 lv, .int .i64 lq] 25) none))) (And.intro ((H3.out.2.2.1.kept hg (by simp)).alloc (.cells #[.bool lh, .int .i64 lm, .int .i64 lv, .int .i64 lq] 25)) (And.intro ((H3.out.2.2.2.1.kept hg (by simp)).alloc (.cells #[.bool lh, .int .i64 lm, .int .i64 lv, .int .i64 lq] 25)) (And.intro ((H3.out.2.2.2.2.kept hg (by simp)).alloc (.cells #[.bool lh, .int .i64 lm, .int .i64 lv, .int .i64 lq] 25)) (Box4.new w4 25 (.bool lh) (.int .i64 lm) (.int .i64 lv) (.int .i64 lq))))))
    generalize hB : w3.heap.size = D at *
    clear hg H3 hB
    obtain ⟨yh, ym, yv, yq, hY⟩ := late_form lh lm lv lq
    have hl := fun w => rt_late_impl lh lm lv lq w
    rw [hY] at hl
    have HLI := Lib.hid hl
    have hl := fun w => rt_late_spec lh lm lv lq w
    rw [hY] at hl
    have HLS := Lib.hid hl
    clear hl hY
    have ho := fun w => oki_at xh xm xv xq w
    have HOI := Lib.hid ho
    clear ho
    have ho := fun w => oks_at xh xm xv xq w
    have HOS := Lib.hid ho
    clear ho
    generalize rtOk xh xm xv xq = d at *
    go_wp2_with fail
    generalize hW : w4.alloc (.cells #[.bool lh, .int .i64 lm, .int .i64 lv, .int .i64 lq] 25) = W at *
    generalize hE : w4.heap.size = E at *
    clear hW hE
    have b0 := H4.out.2.1.c0
    have b1 := H4.out.2.1.c1
    have b2 := H4.out.2.1.c2
    have b3 := H4.out.2.1.c3
    have c0 := H4.out.2.2.1.c0
    have c1 := H4.out.2.2.1.c1
    have c2 := H4.out.2.2.1.c2
    have c3 := H4.out.2.2.1.c3
    have d0 := H4.out.2.2.2.1.c0
    have d1 := H4.out.2.2.2.1.c1
    have d2 := H4.out.2.2.2.1.c2
    have d3 := H4.out.2.2.2.1.c3
    have e0 := H4.out.2.2.2.2.c0
    have e1 := H4.out.2.2.2.2.c1
    have e2 := H4.out.2.2.2.2.c2
    have e3 := H4.out.2.2.2.2.c3
    go_region_held3 (fun w' => w'.cell? ⟨B, 0, none⟩ = some (.bool h) ∧ w'.cell? ⟨B, 1, none⟩ = some (.int .i64 m) ∧ w'.cell? ⟨B, 2, none⟩ = some (.int .i64 v) ∧ w'.cell? ⟨B, 3, none⟩ = some (.int .i64 q) ∧ w'.cell? ⟨C, 0, none⟩ = some (.bool n0) ∧ w'.cell? ⟨C, 1, none⟩ = some (.int .i64 n1) ∧ w'.cell? ⟨C, 2, none⟩ = some (.int .i64 n2) ∧ w'.cell? ⟨C, 3, none⟩ = some (.int .i64 n3) ∧ w'.cell? ⟨D, 0, none⟩ = some (.bool xh) ∧ w'.cell? ⟨D, 1, none⟩ = some (.int .i64 xm) ∧ w'.cell? ⟨D, 2, none⟩ = some (.int .i64 xv) ∧ w'.cell? ⟨D, 3, none⟩ = some (.int .i64 xq) ∧ w'.cell? ⟨E, 0, none⟩ = some (.bool lh) ∧ w'.cell? ⟨E, 1, none⟩ = some (.int .i64 lm) ∧ w'.cell? ⟨E, 2, none⟩ = some (.int .i64 lv) ∧ w'.cell? ⟨E, 3, none⟩ = some (.int .i64 lq) ∧ W.grownBy w' none) ((refine ⟨by first | with_reducible assumption | (go_simp; done) | (simp [*]; done), by first | with_reducible assumption | (go_simp; done) | (simp [*]; done), by first | with_reducible assumption | (go_simp; done) | (simp [*]; done), by first | with_reducible assumption | (go_simp; done) | (simp [*]; done), by first | with_reducible assumption | (go_simp; done) | (simp [*]; done), by first | with_reducible assumption | (go_simp; done) | (simp [*]; done), by first | with_reducible assumption | (go_simp; done) | (simp [*]; done), by first | with_reducible assumption | (go_simp; done) | (simp [*]; done), by first | with_reducible assumption | (go_simp; done) | (simp [*]; done), by first | with_reducible assumption | (go_simp; done) | (simp [*]; done), by first | with_reducible assumption | (go_simp; done) | (simp [*]; done), by first | with_reducible assumption | (go_simp; done) | (simp [*]; done), by first | with_reducible assumption | (go_simp; done) | (simp [*]; done), by first | with_reducible assumption | (go_simp; done) | (simp [*]; done), by first | with_reducible assumption | (go_simp; done) | (simp [*]; done), by first | with_reducible assumption | (go_simp; done) | (simp [*]; done), by first | with_reducible assumption | exact grownBy_drew | exact grownBy_trans (by with_reducible assumption) grownBy_drew | exact grownBy_trans (by with_reducible assumption) (by with_reducible assumption) | exact World.grownBy.refl _ _⟩)) (first | (go_at_call 14; refine (HSS.out _).mono ?_; rintro e w9 ⟨rfl, hg⟩; have q0 := hg.cell (a := ⟨B, 0, none⟩) (v := .bool h) (by first | with_reducible assumption | (go_simp; done) | (simp [*]; done)) (by simp); have q1 := hg.cell (a := ⟨B, 1, none⟩) (v := .int .i64 m) (by first | with_reducible assumption | (go_simp; done) | (simp [*]; done)) (by simp); have q2 := hg.cell (a := ⟨B, 2, none⟩) (v := .int .i64 v) (by first | with_reducible assumption | (go_simp; done) | (simp [*]; done)) (by simp); have q3 := hg.cell (a := ⟨B, 3, none⟩) (v := .int .i64 q) (by first | with_reducible assumption | (go_simp; done) | (simp [*]; done)) (by simp); have q4 := hg.cell (a := ⟨C, 0, none⟩) (v := .bool n0) (by first | with_reducible assumption | (go_simp; done) | (simp [*]; done)) (by simp); have q5 := hg.cell (a := ⟨C, 1, none⟩) (v := .int .i64 n1) (by first | with_reducible assumption | (go_simp; done) | (simp [*]; done)) (by simp); have q6 := hg.cell (a := ⟨C, 2, none⟩) (v := .int .i64 n2) (by first | with_reducible assumption | (go_simp; done) | (simp [*]; done)) (by simp); have q7 := hg.cell (a := ⟨C, 3, none⟩) (v := .int .i64 n3) (by first | with_reducible assumption | (go_simp; done) | (simp [*]; done)) (by simp); have q8 := hg.cell (a := ⟨D, 0, none⟩) (v := .bool xh) (by first | with_reducible assumption | (go_simp; done) | (simp [*]; done)) (by simp); have q9 := hg.cell (a := ⟨D, 1, none⟩) (v := .int .i64 xm) (by first | with_reducible assumption | (go_simp; done) | (simp [*]; done)) (by simp); have q10 := hg.cell (a := ⟨D, 2, none⟩) (v := .int .i64 xv) (by first | with_reducible assumption | (go_simp; done) | (simp [*]; done)) (by simp); have q11 := hg.cell (a := ⟨D, 3, none⟩) (v := .int .i64 xq) (by first | with_reducible assumption | (go_simp; done) | (simp [*]; done)) (by simp); have q12 := hg.cell (a := ⟨E, 0, none⟩) (v := .bool lh) (by first | with_reducible assumption | (go_simp; done) | (simp [*]; done)) (by simp); have q13 := hg.cell (a := ⟨E, 1, none⟩) (v := .int .i64 lm) (by first | with_reducible assumption | (go_simp; done) | (simp [*]; done)) (by simp); have q14 := hg.cell (a := ⟨E, 2, none⟩) (v := .int .i64 lv) (by first | with_reducible assumption | (go_simp; done) | (simp [*]; done)) (by simp); have q15 := hg.cell (a := ⟨E, 3, none⟩) (v := .int .i64 lq) (by first | with_reducible assumption | (go_simp; done) | (simp [*]; done)) (by simp); have qg := grownBy_trans (a := W) (by first | with_reducible assumption | exact grownBy_drew | exact grownBy_trans (by with_reducible assumption) grownBy_drew | exact World.grownBy.refl _ _) hg) | (go_at_call 15; refine (HOI.out _).mono ?_; rintro e w9 ⟨rfl, hg⟩; have q0 := hg.cell (a := ⟨B, 0, none⟩) (v := .bool h) (by first | with_reducible assumption | (go_simp; done) | (simp [*]; done)) (by simp); have q1 := hg.cell (a := ⟨B, 1, none⟩) (v := .int .i64 m) (by first | with_reducible assumption | (go_simp; done) | (simp [*]; done)) (by simp); have q2 := hg.cell (a := ⟨B, 2, none⟩) (v := .int .i64 v) (by first | with_reducible assumption | (go_simp; done) | (simp [*]; done)) (by simp); have q3 := hg.cell (a := ⟨B, 3, none⟩) (v := .int .i64 q) (by first | with_reducible assumption | (go_simp; done) | (simp [*]; done)) (by simp); have q4 := hg.cell (a := ⟨C, 0, none⟩) (v := .bool n0) (by first | with_reducible assumption | (go_simp; done) | (simp [*]; done)) (by simp); have q5 := hg.cell (a := ⟨C, 1, none⟩) (v := .int .i64 n1) (by first | with_reducible assumption | (go_simp; done) | (simp [*]; done)) (by simp); have q6 := hg.cell (a := ⟨C, 2, none⟩) (v := .int .i64 n2) (by first | with_reducible assumption | (go_simp; done) | (simp [*]; done)) (by simp); have q7 := hg.cell (a := ⟨C, 3, none⟩) (v := .int .i64 n3) (by first | with_reducible assumption | (go_simp; done) | (simp [*]; done)) (by simp); have q8 := hg.cell (a := ⟨D, 0, none⟩) (v := .bool xh) (by first | with_reducible assumption | (go_simp; done) | (simp [*]; done)) (by simp); have q9 := hg.cell (a := ⟨D, 1, none⟩) (v := .int .i64 xm) (by first | with_reducible assumption | (go_simp; done) | (simp [*]; done)) (by simp); have q10 := hg.cell (a := ⟨D, 2, none⟩) (v := .int .i64 xv) (by first | with_reducible assumption | (go_simp; done) | (simp [*]; done)) (by simp); have q11 := hg.cell (a := ⟨D, 3, none⟩) (v := .int .i64 xq) (by first | with_reducible assumption | (go_simp; done) | (simp [*]; done)) (by simp); have q12 := hg.cell (a := ⟨E, 0, none⟩) (v := .bool lh) (by first | with_reducible assumption | (go_simp; done) | (simp [*]; done)) (by simp); have q13 := hg.cell (a := ⟨E, 1, none⟩) (v := .int .i64 lm) (by first | with_reducible assumption | (go_simp; done) | (simp [*]; done)) (by simp); have q14 := hg.cell (a := ⟨E, 2, none⟩) (v := .int .i64 lv) (by first | with_reducible assumption | (go_simp; done) | (simp [*]; done)) (by simp); have q15 := hg.cell (a := ⟨E, 3, none⟩) (v := .int .i64 lq) (by first | with_reducible assumption | (go_simp; done) | (simp [*]; done)) (by simp); have qg := grownBy_trans (a := W) (by first | with_reducible assumption | exact grownBy_drew | exact grownBy_trans (by with_reducible assumption) grownBy_drew | exact World.grownBy.refl _ _) hg) | (go_at_call 16; refine (HOS.out _).mono ?_; rintro e w9 ⟨rfl, hg⟩; have q0 := hg.cell (a := ⟨B, 0, none⟩) (v := .bool h) (by first | with_reducible assumption | (go_simp; done) | (simp [*]; done)) (by simp); have q1 := hg.cell (a := ⟨B, 1, none⟩) (v := .int .i64 m) (by first | with_reducible assumption | (go_simp; done) | (simp [*]; done)) (by simp); have q2 := hg.cell (a := ⟨B, 2, none⟩) (v := .int .i64 v) (by first | with_reducible assumption | (go_simp; done) | (simp [*]; done)) (by simp); have q3 := hg.cell (a := ⟨B, 3, none⟩) (v := .int .i64 q) (by first | with_reducible assumption | (go_simp; done) | (simp [*]; done)) (by simp); have q4 := hg.cell (a := ⟨C, 0, none⟩) (v := .bool n0) (by first | with_reducible assumption | (go_simp; done) | (simp [*]; done)) (by simp); have q5 := hg.cell (a := ⟨C, 1, none⟩) (v := .int .i64 n1) (by first | with_reducible assumption | (go_simp; done) | (simp [*]; done)) (by simp); have q6 := hg.cell (a := ⟨C, 2, none⟩) (v := .int .i64 n2) (by first | with_reducible assumption | (go_simp; done) | (simp [*]; done)) (by simp); have q7 := hg.cell (a := ⟨C, 3, none⟩) (v := .int .i64 n3) (by first | with_reducible assumption | (go_simp; done) | (simp [*]; done)) (by simp); have q8 := hg.cell (a := ⟨D, 0, none⟩) (v := .bool xh) (by first | with_reducible assumption | (go_simp; done) | (simp [*]; done)) (by simp); have q9 := hg.cell (a := ⟨D, 1, none⟩) (v := .int .i64 xm) (by first | with_reducible assumption | (go_simp; done) | (simp [*]; done)) (by simp); have q10 := hg.cell (a := ⟨D, 2, none⟩) (v := .int .i64 xv) (by first | with_reducible assumption | (go_simp; done) | (simp [*]; done)) (by simp); have q11 := hg.cell (a := ⟨D, 3, none⟩) (v := .int .i64 xq) (by first | with_reducible assumption | (go_simp; done) | (simp [*]; done)) (by simp); have q12 := hg.cell (a := ⟨E, 0, none⟩) (v := .bool lh) (by first | with_reducible assumption | (go_simp; done) | (simp [*]; done)) (by simp); have q13 := hg.cell (a := ⟨E, 1, none⟩) (v := .int .i64 lm) (by first | with_reducible assumption | (go_simp; done) | (simp [*]; done)) (by simp); have q14 := hg.cell (a := ⟨E, 2, none⟩) (v := .int .i64 lv) (by first | with_reducible assumption | (go_simp; done) | (simp [*]; done)) (by simp); have q15 := hg.cell (a := ⟨E, 3, none⟩) (v := .int .i64 lq) (by first | with_reducible assumption | (go_simp; done) | (simp [*]; done)) (by simp); have qg := grownBy_trans (a := W) (by first | with_reducible assumption | exact grownBy_drew | exact grownBy_trans (by with_reducible assumption) grownBy_drew | exact World.grownBy.refl _ _) hg) | (go_at_call 17; refine (HLI.out _).mono ?_; rintro e w9 ⟨rfl, hg⟩; have q0 := hg.cell (a := ⟨B, 0, none⟩) (v := .bool h) (by first | with_reducible assumption | (go_simp; done) | (simp [*]; done)) (by simp); have q1 := hg.cell (a := ⟨B, 1, none⟩) (v := .int .i64 m) (by first | with_reducible assumption | (go_simp; done) | (simp [*]; done)) (by simp); have q2 := hg.cell (a := ⟨B, 2, none⟩) (v := .int .i64 v) (by first | with_reducible assumption | (go_simp; done) | (simp [*]; done)) (by simp); have q3 := hg.cell (a := ⟨B, 3, none⟩) (v := .int .i64 q) (by first | with_reducible assumption | (go_simp; done) | (simp [*]; done)) (by simp); have q4 := hg.cell (a := ⟨C, 0, none⟩) (v := .bool n0) (by first | with_reducible assumption | (go_simp; done) | (simp [*]; done)) (by simp); have q5 := hg.cell (a := ⟨C, 1, none⟩) (v := .int .i64 n1) (by first | with_reducible assumption | (go_simp; done) | (simp [*]; done)) (by simp); have q6 := hg.cell (a := ⟨C, 2, none⟩) (v := .int .i64 n2) (by first | with_reducible assumption | (go_simp; done) | (simp [*]; done)) (by simp); have q7 := hg.cell (a := ⟨C, 3, none⟩) (v := .int .i64 n3) (by first | with_reducible assumption | (go_simp; done) | (simp [*]; done)) (by simp); have q8 := hg.cell (a := ⟨D, 0, none⟩) (v := .bool xh) (by first | with_reducible assumption | (go_simp; done) | (simp [*]; done)) (by simp); have q9 := hg.cell (a := ⟨D, 1, none⟩) (v := .int .i64 xm) (by first | with_reducible assumption | (go_simp; done) | (simp [*]; done)) (by simp); have q10 := hg.cell (a := ⟨D, 2, none⟩) (v := .int .i64 xv) (by first | with_reducible assumption | (go_simp; done) | (simp [*]; done)) (by simp); have q11 := hg.cell (a := ⟨D, 3, none⟩) (v := .int .i64 xq) (by first | with_reducible assumption | (go_simp; done) | (simp [*]; done)) (by simp); have q12 := hg.cell (a := ⟨E, 0, none⟩) (v := .bool lh) (by first | with_reducible assumption | (go_simp; done) | (simp [*]; done)) (by simp); have q13 := hg.cell (a := ⟨E, 1, none⟩) (v := .int .i64 lm) (by first | with_reducible assumption | (go_simp; done) | (simp [*]; done)) (by simp); have q14 := hg.cell (a := ⟨E, 2, none⟩) (v := .int .i64 lv) (by first | with_reducible assumption | (go_simp; done) | (simp [*]; done)) (by simp); have q15 := hg.cell (a := ⟨E, 3, none⟩) (v := .int .i64 lq) (by first | with_reducible assumption | (go_simp; done) | (simp [*]; done)) (by simp); have qg := grownBy_trans (a := W) (by first | with_reducible assumption | exact grownBy_drew | exact grownBy_trans (by with_reducible assumption) grownBy_drew | exact World.grownBy.refl _ _) hg) | (go_at_call 18; refine (HLS.out _).mono ?_; rintro e w9 ⟨rfl, hg⟩; have q0 := hg.cell (a := ⟨B, 0, none⟩) (v := .bool h) (by first | with_reducible assumption | (go_simp; done) | (simp [*]; done)) (by simp); have q1 := hg.cell (a := ⟨B, 1, none⟩) (v := .int .i64 m) (by first | with_reducible assumption | (go_simp; done) | (simp [*]; done)) (by simp); have q2 := hg.cell (a := ⟨B, 2, none⟩) (v := .int .i64 v) (by first | with_reducible assumption | (go_simp; done) | (simp [*]; done)) (by simp); have q3 := hg.cell (a := ⟨B, 3, none⟩) (v := .int .i64 q) (by first | with_reducible assumption | (go_simp; done) | (simp [*]; done)) (by simp); have q4 := hg.cell (a := ⟨C, 0, none⟩) (v := .bool n0) (by first | with_reducible assumption | (go_simp; done) | (simp [*]; done)) (by simp); have q5 := hg.cell (a := ⟨C, 1, none⟩) (v := .int .i64 n1) (by first | with_reducible assumption | (go_simp; done) | (simp [*]; done)) (by simp); have q6 := hg.cell (a := ⟨C, 2, none⟩) (v := .int .i64 n2) (by first | with_reducible assumption | (go_simp; done) | (simp [*]; done)) (by simp); have q7 := hg.cell (a := ⟨C, 3, none⟩) (v := .int .i64 n3) (by first | with_reducible assumption | (go_simp; done) | (simp [*]; done)) (by simp); have q8 := hg.cell (a := ⟨D, 0, none⟩) (v := .bool xh) (by first | with_reducible assumption | (go_simp; done) | (simp [*]; done)) (by simp); have q9 := hg.cell (a := ⟨D, 1, none⟩) (v := .int .i64 xm) (by first | with_reducible assumption | (go_simp; done) | (simp [*]; done)) (by simp); have q10 := hg.cell (a := ⟨D, 2, none⟩) (v := .int .i64 xv) (by first | with_reducible assumption | (go_simp; done) | (simp [*]; done)) (by simp); have q11 := hg.cell (a := ⟨D, 3, none⟩) (v := .int .i64 xq) (by first | with_reducible assumption | (go_simp; done) | (simp [*]; done)) (by simp); have q12 := hg.cell (a := ⟨E, 0, none⟩) (v := .bool lh) (by first | with_reducible assumption | (go_simp; done) | (simp [*]; done)) (by simp); have q13 := hg.cell (a := ⟨E, 1, none⟩) (v := .int .i64 lm) (by first | with_reducible assumption | (go_simp; done) | (simp [*]; done)) (by simp); have q14 := hg.cell (a := ⟨E, 2, none⟩) (v := .int .i64 lv) (by first | with_reducible assumption | (go_simp; done) | (simp [*]; done)) (by simp); have q15 := hg.cell (a := ⟨E, 3, none⟩) (v := .int .i64 lq) (by first | with_reducible assumption | (go_simp; done) | (simp [*]; done)) (by simp); have qg := grownBy_trans (a := W) (by first | with_reducible assumption | exact grownBy_drew | exact grownBy_trans (by with_reducible assumption) grownBy_drew | exact World.grownBy.refl _ _) hg) | (go_at_call 19; refine (rt_new_impl _).mono ?_; rintro e w9 ⟨rfl, hg⟩; unfold rtV4; have q0 := hg.cell (a := ⟨B, 0, none⟩) (v := .bool h) (by first | with_reducible assumption | (go_simp; done) | (simp [*]; done)) (by simp); have q1 := hg.cell (a := ⟨B, 1, none⟩) (v := .int .i64 m) (by first | with_reducible assumption | (go_simp; done) | (simp [*]; done)) (by simp); have q2 := hg.cell (a := ⟨B, 2, none⟩) (v := .int .i64 v) (by first | with_reducible assumption | (go_simp; done) | (simp [*]; done)) (by simp); have q3 := hg.cell (a := ⟨B, 3, none⟩) (v := .int .i64 q) (by first | with_reducible assumption | (go_simp; done) | (simp [*]; done)) (by simp); have q4 := hg.cell (a := ⟨C, 0, none⟩) (v := .bool n0) (by first | with_reducible assumption | (go_simp; done) | (simp [*]; done)) (by simp); have q5 := hg.cell (a := ⟨C, 1, none⟩) (v := .int .i64 n1) (by first | with_reducible assumption | (go_simp; done) | (simp [*]; done)) (by simp); have q6 := hg.cell (a := ⟨C, 2, none⟩) (v := .int .i64 n2) (by first | with_reducible assumption | (go_simp; done) | (simp [*]; done)) (by simp); have q7 := hg.cell (a := ⟨C, 3, none⟩) (v := .int .i64 n3) (by first | with_reducible assumption | (go_simp; done) | (simp [*]; done)) (by simp); have q8 := hg.cell (a := ⟨D, 0, none⟩) (v := .bool xh) (by first | with_reducible assumption | (go_simp; done) | (simp [*]; done)) (by simp); have q9 := hg.cell (a := ⟨D, 1, none⟩) (v := .int .i64 xm) (by first | with_reducible assumption | (go_simp; done) | (simp [*]; done)) (by simp); have q10 := hg.cell (a := ⟨D, 2, none⟩) (v := .int .i64 xv) (by first | with_reducible assumption | (go_simp; done) | (simp [*]; done)) (by simp); have q11 := hg.cell (a := ⟨D, 3, none⟩) (v := .int .i64 xq) (by first | with_reducible assumption | (go_simp; done) | (simp [*]; done)) (by simp); have q12 := hg.cell (a := ⟨E, 0, none⟩) (v := .bool lh) (by first | with_reducible assumption | (go_simp; done) | (simp [*]; done)) (by simp); have q13 := hg.cell (a := ⟨E, 1, none⟩) (v := .int .i64 lm) (by first | with_reducible assumption | (go_simp; done) | (simp [*]; done)) (by simp); have q14 := hg.cell (a := ⟨E, 2, none⟩) (v := .int .i64 lv) (by first | with_reducible assumption | (go_simp; done) | (simp [*]; done)) (by simp); have q15 := hg.cell (a := ⟨E, 3, none⟩) (v := .int .i64 lq) (by first | with_reducible assumption | (go_simp; done) | (simp [*]; done)) (by simp); have qg := grownBy_trans (a := W) (by first | with_reducible assumption | exact grownBy_drew | exact grownBy_trans (by with_reducible assumption) grownBy_drew | exact World.grownBy.refl _ _) hg) | (go_at_call 20; refine (rt_new_spec _).mono ?_; rintro e w9 ⟨rfl, hg⟩; unfold rtV4; have q0 := hg.cell (a := ⟨B, 0, none⟩) (v := .bool h) (by first | with_reducible assumption | (go_simp; done) | (simp [*]; done)) (by simp); have q1 := hg.cell (a := ⟨B, 1, none⟩) (v := .int .i64 m) (by first | with_reducible assumption | (go_simp; done) | (simp [*]; done)) (by simp); have q2 := hg.cell (a := ⟨B, 2, none⟩) (v := .int .i64 v) (by first | with_reducible assumption | (go_simp; done) | (simp [*]; done)) (by simp); have q3 := hg.cell (a := ⟨B, 3, none⟩) (v := .int .i64 q) (by first | with_reducible assumption | (go_simp; done) | (simp [*]; done)) (by simp); have q4 := hg.cell (a := ⟨C, 0, none⟩) (v := .bool n0) (by first | with_reducible assumption | (go_simp; done) | (simp [*]; done)) (by simp); have q5 := hg.cell (a := ⟨C, 1, none⟩) (v := .int .i64 n1) (by first | with_reducible assumption | (go_simp; done) | (simp [*]; done)) (by simp); have q6 := hg.cell (a := ⟨C, 2, none⟩) (v := .int .i64 n2) (by first | with_reducible assumption | (go_simp; done) | (simp [*]; done)) (by simp); have q7 := hg.cell (a := ⟨C, 3, none⟩) (v := .int .i64 n3) (by first | with_reducible assumption | (go_simp; done) | (simp [*]; done)) (by simp); have q8 := hg.cell (a := ⟨D, 0, none⟩) (v := .bool xh) (by first | with_reducible assumption | (go_simp; done) | (simp [*]; done)) (by simp); have q9 := hg.cell (a := ⟨D, 1, none⟩) (v := .int .i64 xm) (by first | with_reducible assumption | (go_simp; done) | (simp [*]; done)) (by simp); have q10 := hg.cell (a := ⟨D, 2, none⟩) (v := .int .i64 xv) (by first | with_reducible assumption | (go_simp; done) | (simp [*]; done)) (by simp); have q11 := hg.cell (a := ⟨D, 3, none⟩) (v := .int .i64 xq) (by first | with_reducible assumption | (go_simp; done) | (simp [*]; done)) (by simp); have q12 := hg.cell (a := ⟨E, 0, none⟩) (v := .bool lh) (by first | with_reducible assumption | (go_simp; done) | (simp [*]; done)) (by simp); have q13 := hg.cell (a := ⟨E, 1, none⟩) (v := .int .i64 lm) (by first | with_reducible assumption | (go_simp; done) | (simp [*]; done)) (by simp); have q14 := hg.cell (a := ⟨E, 2, none⟩) (v := .int .i64 lv) (by first | with_reducible assumption | (go_simp; done) | (simp [*]; done)) (by simp); have q15 := hg.cell (a := ⟨E, 3, none⟩) (v := .int .i64 lq) (by first | with_reducible assumption | (go_simp; done) | (simp [*]; done)) (by simp); have qg := grownBy_trans (a := W) (by first | with_reducible assumption | exact grownBy_drew | exact grownBy_trans (by with_reducible assumption) grownBy_drew | exact World.grownBy.refl _ _) hg))
    rename_i hH
    have qz := hH.2.2.2.2.2.2.2.2.2.2.2.2.2.2.2.2
    have H5 := Lib.hid (And.intro (grownBy_trans H4.out.1 qz) (And.intro (H4.out.2.1.kept qz (by simp)) (H4.out.2.2.1.kept qz (by simp))))
    clear hH qz H4 b0 b1 b2 b3 c0 c1 c2 c3 d0 d1 d2 d3 e0 e1 e2 e3
    have b0 := H5.out.2.1.c0
    have b1 := H5.out.2.1.c1
    have b2 := H5.out.2.1.c2
    have b3 := H5.out.2.1.c3
    cases k : rtOk h m v q
    · have e := HN.out
      rw [step_no (.inl k)] at e
      simp only [Value.agg.injEq, Array.mk.injEq, List.cons.injEq, Value.bool.injEq, Value.int.injEq, true_and, and_true] at e
      obtain ⟨rfl, rfl, rfl, rfl⟩ := e
      have K := Lib.hid k
      clear k HN
      go_wp2_with fail
      refine (oks_at h m v q _).mono ?_
      rintro e w10 ⟨rfl, hg⟩
      rw [K.out]
      have H6 := Lib.hid (And.intro (grownBy_trans H5.out.1 hg) (H5.out.2.2.kept hg (by simp)))
      have c0 := H6.out.2.c0
      have c1 := H6.out.2.c1
      have c2 := H6.out.2.c2
      have c3 := H6.out.2.c3
      clear hg b0 b1 b2 b3
      go_wp2_with fail
      go_ret
      exact ⟨by first | rfl | (simp; done), below_new H6.out.1⟩
    · cases k2 : inB ms 0 60000
      · have e := HN.out
        rw [step_no (.inr k2)] at e
        simp only [Value.agg.injEq, Array.mk.injEq, List.cons.injEq, Value.bool.injEq, Value.int.injEq, true_and, and_true] at e
        obtain ⟨rfl, rfl, rfl, rfl⟩ := e
        have hms := in_not k2
        have K := Lib.hid k
        clear k HN k2
        by_cases hm0 : ms < 0
        · clear hms
          go_wp2_with fail
          refine (oks_at h m v q _).mono ?_
          rintro e w10 ⟨rfl, hg⟩
          rw [K.out]
          have H6 := Lib.hid (And.intro (grownBy_trans H5.out.1 hg) (H5.out.2.2.kept hg (by simp)))
          have c0 := H6.out.2.c0
          have c1 := H6.out.2.c1
          have c2 := H6.out.2.c2
          have c3 := H6.out.2.c3
          clear hg b0 b1 b2 b3
          go_wp2_with fail
          go_ret
          exact ⟨by first | rfl | (simp; done), below_new H6.out.1⟩
        · have hm1 : 60000 < ms := by omega
          clear hms
          go_wp2_with fail
          refine (oks_at h m v q _).mono ?_
          rintro e w10 ⟨rfl, hg⟩
          rw [K.out]
          have H6 := Lib.hid (And.intro (grownBy_trans H5.out.1 hg) (H5.out.2.2.kept hg (by simp)))
          have c0 := H6.out.2.c0
          have c1 := H6.out.2.c1
          have c2 := H6.out.2.c2
          have c3 := H6.out.2.c3
          clear hg b0 b1 b2 b3
          go_wp2_with fail
          go_ret
          exact ⟨by first | rfl | (simp; done), below_new H6.out.1⟩
      · obtain ⟨M, hM⟩ : ∃ M, rtM h m ms = M := ⟨_, rfl⟩
        obtain ⟨V, hV⟩ : ∃ V, rtV h m v ms = V := ⟨_, rfl⟩
        obtain ⟨S, hS⟩ : ∃ S, rtR M V = S := ⟨_, rfl⟩
        have e := HN.out
        rw [step_yes k k2 hM hV hS] at e
        simp only [Value.agg.injEq, Array.mk.injEq, List.cons.injEq, Value.bool.injEq, Value.int.injEq, true_and, and_true] at e
        obtain ⟨rfl, rfl, rfl, rfl⟩ := e
        obtain ⟨g0, g1⟩ := in_of k2
        obtain ⟨f0, f1, f2, f3⟩ := rt_facts k ⟨g0, g1⟩
        rw [hM] at f0 f1
        rw [hV] at f2 f3
        have hw := wait_facts M V
        rw [hS] at hw
        obtain ⟨r0, r1, r2⟩ := hw
        have R2 := Lib.hid r2
        clear r2
        have hr := rt_of k
        obtain ⟨_, _, m0, m1, _, _, _⟩ := hr
        have HOK := Lib.hid (show rtOk true M V S = true from decide_eq_true ⟨r0, r1, f0, f1, f2, f3⟩)
        have HMM := Lib.hid hM
        have K := Lib.hid k
        clear k HN k2 hM hV hS HSS HLI HLS HOI HOS
        have w1' : IntKind.i64.wrap (M.tdiv 8) = M / 8 := by rw [Int.tdiv_eq_ediv_of_nonneg f0, IntWalk.i64_in _ (by omega)]
        have w2' : IntKind.i64.wrap (m.tdiv 8) = m / 8 := by rw [Int.tdiv_eq_ediv_of_nonneg m0, IntWalk.i64_in _ (by omega)]
        have hfin : ∀ (x y : Int), (h = true → x = absI (ms - M / 8) ∧ y = absI (ms - m / 8)) → h = true → x ≤ y := by
          intro x y hx hh
          obtain ⟨rfl, rfl⟩ := hx hh
          have := nearer m ms m0
          rw [← HMM.out, hh]
          exact this
        have HF := Lib.hid hfin
        clear hfin
        go_wp2_with fail
        refine (oks_at h m v q _).mono ?_
        rintro e w10 ⟨rfl, hg⟩
        rw [K.out]
        have H6 := Lib.hid (And.intro (grownBy_trans H5.out.1 hg) (And.intro (H5.out.2.1.kept hg (by simp)) (H5.out.2.2.kept hg (by simp))))
        have c0 := H6.out.2.2.c0
        have c1 := H6.out.2.2.c1
        have c2 := H6.out.2.2.c2
        have c3 := H6.out.2.2.c3
        clear hg b0 b1 b2 b3
        go_wp2_with fail
        refine (sign_at _ _ (by omega)).mono ?_
        rintro e w11 ⟨rfl, rfl⟩
        have hA : 0 ≤ absI (ms - M / 8) ∧ absI (ms - M / 8) ≤ 1000000 := by unfold absI; split <;> omega
        obtain ⟨X, hX⟩ : ∃ X, absI (ms - M / 8) = X := ⟨_, rfl⟩
        have HX := Lib.hid hX
        rw [hX] at hA ⊢
        clear hX
        go_wp2_with fail
        refine (oki_at true M V S _).mono ?_
        rintro e w12 ⟨rfl, hg⟩
        rw [HOK.out]
        have H7 := Lib.hid (And.intro (grownBy_trans H6.out.1 hg) (And.intro (H6.out.2.1.kept hg (by simp)) (H6.out.2.2.kept hg (by simp))))
        clear hg c0 c1 c2 c3
        have c0 := H7.out.2.2.c0
        have c1 := H7.out.2.2.c1
        have c2 := H7.out.2.2.c2
        have c3 := H7.out.2.2.c3
        have b0 := H7.out.2.1.c0
        have b1 := H7.out.2.1.c1
        have hq : S = 60000 ∨ (((S : Int) == 60000) = false ∧ M / 8 ≤ S) := by
          by_cases e : S = 60000
          · exact .inl e
          · exact .inr ⟨by rw [beq_eq_false_iff_ne]; exact e, by rcases R2.out with r | r <;> omega⟩
        cases h
        · have hM8 : ((M : Int) == 8 * ms) = true := by
            have := HMM.out
            simp [rtM] at this
            simp
            omega
          rcases hq with rfl | ⟨hq1, hq2⟩
          · go_wp2_with fail
            go_ret
            exact ⟨by first | rfl | (simp; done), below_new H7.out.1⟩
          · go_wp2_with fail
            go_ret
            exact ⟨by first | rfl | (simp; done), below_new H7.out.1⟩
        · have hle := HF.out X (absI (ms - m / 8)) (fun _ => ⟨HX.out.symm, rfl⟩) rfl
          have hB : 0 ≤ absI (ms - m / 8) ∧ absI (ms - m / 8) ≤ 1000000 := by unfold absI; split <;> omega
          rcases hq with rfl | ⟨hq1, hq2⟩
          · go_wp2_with fail
            refine (sign_at _ _ (by omega)).mono ?_
            rintro e w13 ⟨rfl, rfl⟩
            generalize absI (ms - m / 8) = Y at *
            go_wp2_with fail
            go_ret
            exact ⟨by first | rfl | (simp; done), below_new H7.out.1⟩
          · go_wp2_with fail
            refine (sign_at _ _ (by omega)).mono ?_
            rintro e w13 ⟨rfl, rfl⟩
            generalize absI (ms - m / 8) = Y at *
            go_wp2_with fail
            go_ret
            exact ⟨by first | rfl | (simp; done), below_new H7.out.1⟩

set_option maxRecDepth 100000 in
theorem lifted (os : Os) (started : os.Started) (H : Type) (enc : TypeId × Value → H) :
    ReturnsInHanded {} Try.checked os 3 .any (Rows.fnRttSpec.pre6 enc Try.prog Try.f3 Rows.fnRttRow.domain false) (Rows.fnRttSpec.post enc Try.prog Try.f3 false true false false) := by
  refine returnsInHanded_of_change (C := Try.checked) own started (by kernel_rfl) Try.func3
    (ChangeSpec.witness6 (enc := enc) (C := Try.checked) false ⟨#[], #[.slice none 0 0], []⟩ 8 (by kernel_rfl) (by kernel_rfl) (by kernel_rfl) (by kernel_rfl)) ?_
  intro W base args ds gs before hval0 hW hcnd _
  have hval : ∀ (j : Nat) t v, Try.f3.params[j]? = some t → args[j]? = some v → Value.okWide Try.prog W .any base t v := hval0
  have hW' := hW
  obtain ⟨p, q, hA0, hV, rfl, hfz, hnd⟩ := hW
  have hA : DataW.TrodAll enc Try.prog W 0 (fun _ => true) true Try.f3.params.toList args.toList ds p := hA0
  rw [Try.params3] at hA hval
  obtain ⟨v0, vs0, d0, ds0, p0, q0, hargs, rfl, rfl, h0, r0⟩ := trodAll_cons hA
  obtain ⟨rfl, rfl, rfl⟩ := trodAll_nil r0
  obtain rfl : args = #[v0] := by cases args; simp_all
  obtain ⟨rfl, rfl⟩ := trodVars_none hV
  have k0 := h0
  have lt0 : ∀ x ∈ p0, x.block < W.heap.size := by obtain ⟨m, hm⟩ := k0; exact DataW.trod_lt m _ _ _ hm
  obtain ⟨a0, len0, cap0, rfl⟩ := okWide_slice Try.underlying22 (hval 0 22 v0 rfl rfl)
  obtain ⟨z0, w0⟩ : ∃ zs, IsRow .u8 W a0 len0 cap0 zs := by
    obtain ⟨fuel, hf⟩ := h0
    rcases open_ints Try.underlying22 Try.underlying5 (by kernel_rfl) hf with ⟨hcs, _⟩ | ⟨x, l, c, zs, hcs, _, hl, hm, hz, _, hcell, hwz⟩
    · simp [Value.cells] at hcs
      obtain ⟨rfl, rfl, rfl⟩ := hcs
      exact ⟨[], .inl ⟨rfl, rfl, rfl, rfl⟩⟩
    · simp [Value.cells] at hcs
      obtain ⟨rfl, rfl, rfl⟩ := hcs
      exact ⟨zs, .inr ⟨_, rfl, hl, hm, by simpa using hz, hcell, hwz⟩⟩
  clear hA0 hval0
  refine (walk a0 len0 cap0 z0 W w0).mono fun e W' ⟨he, bel⟩ => ?_
  subst he
  exact ⟨_, rfl, _, _, _, [], _, [], hW', trodAll_mk1 (shut_bool Try.underlying4 _), (trodAll_cons_mk (Below.trod laidOut (by kernel_rfl) (of_decide_eq_true (by kernel_rfl)) k0 bel lt0) trodAll_mk0), rfl, bel.frame _, fun h => by cases h⟩

theorem over : Rows.fnRttRow.holds Try.pinned (OpenSpec.ofChange Rows.fnRttSpec) :=
  OpenClaim.holds_of_wide 3 Try.f3 rfl rfl rfl rfl rfl rfl rfl ⟨rfl, rfl, rfl, rfl, rfl⟩ rfl rfl rfl rfl rfl (by kernel_rfl) Try.func3 (by kernel_rfl)
    (of_decide_eq_true (by kernel_rfl)) (by unfold Func.isWrapper; first | (rw [if_pos (by decide +kernel)]; kernel_rfl) | (rw [if_neg (by decide +kernel)]; exact ⟨rfl, rfl⟩))
    (fun os started H enc _ => lifted os started H enc)

theorem proved : Rows.FnRttSaid := over
end Go.Proofs.Ythnmkghaejapjaa.fnRtt
