/- For every code the law FnIps answers true and leaves its argument as it was; no condition. -/
import Derived.Test.YtcbaenndkljlpaaRows
import Derived.Test.YtcbaenndkljlpaaDrawIp
import Derived.Test.YtcbaenndkljlpaaIpK
import Derived.WalkKit
import Derived.ProofKit
import Derived.OpenShut
import Derived.ShutString
import Derived.ChangeOld
import Derived.Below
import Derived.Lib.SmallJoins
namespace Go.Proofs.Ytcbaenndkljlpaa.fnIps
open Go.ChangeShapes Go.WideShapes Go.ChangeAt Go.RowKit Go.Joins
open Go.ChangeMaps (open_string shut_string)
set_option linter.unusedVariables false

theorem own : ownKnob Try.prog.godebug = none := by kernel_rfl
theorem laidOut : laidOutB Try.prog = true := by kernel_rfl


def IsRow (k : IntKind) (w : World) (a : Option Addr) (len cap : Nat) (zs : List Int) : Prop :=
  (a = none ∧ len = 0 ∧ cap = 0 ∧ zs = []) ∨
  ∃ x, a = some x ∧ len ≤ cap ∧ cap ≤ maxLen ∧ zs.length = cap ∧ (∀ i, i < zs.length → w.cell? (x.add i) = some (.int k (zs.getD i 0))) ∧ ∀ n ∈ zs, (Lit.int k n).wf = true

theorem ipL_some {s d t p i : Int} {b : List UInt8} (h : ipOk s d t p i b) : (ipL s d t p i b).isEmpty = false := by
  have e : ipL s d t p i b = ipT s d t p i b := if_pos h
  have h1 := (ip_start h).1
  rw [e]
  cases hx : ipT s d t p i b with
  | nil =>
    rw [hx] at h1
    have h2 := congrArg List.length h1
    rw [two_len 17664 (by omega) (by omega)] at h2
    simp at h2
  | cons _ _ => rfl
theorem ipL_twenty {s d t p i : Int} {b : List UInt8} (h : ipOk s d t p i b) : 20 ≤ (ipL s d t p i b).length := by
  have e : ipL s d t p i b = ipT s d t p i b := if_pos h
  have h1 := (ip_back s d t p i b [] h).2.2
  rw [e, h1]
  omega

set_option maxRecDepth 100000 in
set_option maxHeartbeats 8000000 in
theorem walk (a0 : Option Addr) (len0 cap0 : Nat) (z0 : List Int) (w : World) (w0 : IsRow .u8 w a0 len0 cap0 z0) :
    Calls Try.prog 3 #[.slice a0 len0 cap0] w fun e w' => e = .returned (.bool true) ∧ Below w.heap.size w w' := by
  have hc := code_of w0
  clear w0
  have HC := Lib.hid hc
  clear hc
  by_cases hbig : 1048576 < len0
  · go_enter Try.func3, Try.ntmps3
    go_wp2_with (go_at_call 8; refine (big_any _ _ _ _).mono ?_; rintro e w' ⟨rfl, rfl⟩)
    go_ret
    exact ⟨rfl, Below.refl _ _⟩
  · go_enter Try.func3, Try.ntmps3
    go_wp2_with (go_at_call 8; refine (big_any _ _ _ _).mono ?_; rintro e w' ⟨rfl, rfl⟩)
    refine (draw_ip _ _ _ _ HC.out).mono ?_
    rintro e w1 ⟨s, d, t, p, i, b, rfl, hg⟩
    have H1 := Lib.hid ((ip_new w1 (.int .i64 s) (.int .i64 d) (.int .i64 t) (.int .i64 p) (.int .i64 i) (.string ⟨b.toArray⟩) 25).base hg)
    have HK := Lib.hid ((HC.out.kept hg).kept (World.grownBy_alloc w1 (.cells #[.int .i64 s, .int .i64 d, .int .i64 t, .int .i64 p, .int .i64 i, .string ⟨b.toArray⟩] 25) none))
    clear hg HC
    go_wp2_with fail
    refine (ip_impl _ _ _ _ _ _ _).mono ?_
    rintro e w2 ⟨rfl, hg⟩
    have H2 := Lib.hid (H1.out.kept hg)
    have HK2 := Lib.hid (HK.out.kept hg)
    clear hg H1 HK
    go_wp2_with fail
    refine (draw_rip _ _ _ _ HK2.out).mono ?_
    rintro e w3 ⟨l, hl, rfl, hg⟩
    have H3 := Lib.hid (H2.out.kept hg)
    clear hg H2 HK2
    obtain ⟨S, D, T, P, I, B, x, hA⟩ := both_ip l (by omega)
    have HA := Lib.hid hA
    clear hA
    go_wp2_with fail
    refine (HA.out.2.1 _).mono ?_
    rintro e w4 ⟨rfl, hg⟩
    have h4 := H3.out.kept hg
    have H4 := Lib.hid (h4.kept (World.grownBy_alloc w4 (.cells #[.int .i64 S, .int .i64 D, .int .i64 T, .int .i64 P, .int .i64 I, .string ⟨B.toArray⟩] 25) none))
    have HX := Lib.hid ((ip_new w4 (.int .i64 S) (.int .i64 D) (.int .i64 T) (.int .i64 P) (.int .i64 I) (.string ⟨B.toArray⟩) 25).base h4.grown)
    have hlt1 : w1.heap.size < w4.heap.size := cell_in (ip_facts h4).1
    clear hg H3 h4
    go_wp2_with fail
    refine (HA.out.1 _).mono ?_
    rintro e w5 ⟨rfl, hg⟩
    have h5 := H4.out.kept hg
    have x5 := HX.out.kept hg
    have H5 := Lib.hid (h5.kept (World.grownBy_alloc w5 (.cells #[.int .i64 S, .int .i64 D, .int .i64 T, .int .i64 P, .int .i64 I, .string ⟨B.toArray⟩] 25) none))
    have HX5 := Lib.hid (x5.kept (World.grownBy_alloc w5 (.cells #[.int .i64 S, .int .i64 D, .int .i64 T, .int .i64 P, .int .i64 I, .string ⟨B.toArray⟩] 25) none))
    have HY5 := Lib.hid ((ip_new w5 (.int .i64 S) (.int .i64 D) (.int .i64 T) (.int .i64 P) (.int .i64 I) (.string ⟨B.toArray⟩) 25).base h5.grown)
    have hlt2 : w4.heap.size < w5.heap.size := cell_in (ip_facts x5).1
    clear hg H4 HX h5 x5
    go_wp2_with fail
    generalize w5.alloc (.cells #[.int .i64 S, .int .i64 D, .int .i64 T, .int .i64 P, .int .i64 I, .string ⟨B.toArray⟩] 25) = w6 at *
    obtain ⟨c0, c1, c2, c3, c4, c5⟩ := ip_facts H5.out
    obtain ⟨x0, x1, x2, x3, x4, x5⟩ := ip_facts HX5.out
    obtain ⟨y0, y1, y2, y3, y4, y5⟩ := ip_facts HY5.out
    by_cases hok : ipOk s d t p i b
    · have HD := Lib.hid (decide_eq_true hok)
      have HE := Lib.hid hok
      have hne : (ipL s d t p i b).isEmpty = false := ipL_some hok
      have h20 : 20 ≤ (ipL s d t p i b).length := ipL_twenty hok
      clear hok
      cases x
      · refine wp_region_held_drew (S := fun w' => w'.cell? ⟨w1.heap.size, 0, none⟩ = some (.int .i64 s) ∧ w'.cell? ⟨w1.heap.size, 1, none⟩ = some (.int .i64 d) ∧ w'.cell? ⟨w1.heap.size, 2, none⟩ = some (.int .i64 t) ∧ w'.cell? ⟨w1.heap.size, 3, none⟩ = some (.int .i64 p) ∧ w'.cell? ⟨w1.heap.size, 4, none⟩ = some (.int .i64 i) ∧ w'.cell? ⟨w1.heap.size, 5, none⟩ = some (.string ⟨b.toArray⟩) ∧ w'.cell? ⟨w4.heap.size, 0, none⟩ = some (.int .i64 S) ∧ w'.cell? ⟨w4.heap.size, 1, none⟩ = some (.int .i64 D) ∧ w'.cell? ⟨w4.heap.size, 2, none⟩ = some (.int .i64 T) ∧ w'.cell? ⟨w4.heap.size, 3, none⟩ = some (.int .i64 P) ∧ w'.cell? ⟨w4.heap.size, 4, none⟩ = some (.int .i64 I) ∧ w'.cell? ⟨w4.heap.size, 5, none⟩ = some (.string ⟨B.toArray⟩) ∧ w'.cell? ⟨w5.heap.size, 0, none⟩ = some (.int .i64 S) ∧ w'.cell? ⟨w5.heap.size, 1, none⟩ = some (.int .i64 D) ∧ w'.cell? ⟨w5.heap.size, 2, none⟩ = some (.int .i64 T) ∧ w'.cell? ⟨w5.heap.size, 3, none⟩ = some (.int .i64 P) ∧ w'.cell? ⟨w5.heap.size, 4, none⟩ = some (.int .i64 I) ∧ w'.cell? ⟨w5.heap.size, 5, none⟩ = some (.string ⟨B.toArray⟩) ∧ w6.grownBy w' none) (by kernel_rfl) (by exact ⟨by first | assumption | (simp [*]; done), by first | assumption | (simp [*]; done), by first | assumption | (simp [*]; done), by first | assumption | (simp [*]; done), by first | assumption | (simp [*]; done), by first | assumption | (simp [*]; done), by first | assumption | (simp [*]; done), by first | assumption | (simp [*]; done), by first | assumption | (simp [*]; done), by first | assumption | (simp [*]; done), by first | assumption | (simp [*]; done), by first | assumption | (simp [*]; done), by first | assumption | (simp [*]; done), by first | assumption | (simp [*]; done), by first | assumption | (simp [*]; done), by first | assumption | (simp [*]; done), by first | assumption | (simp [*]; done), by first | assumption | (simp [*]; done), by first | assumption | exact grownBy_drew | exact grownBy_trans (by assumption) (by assumption)⟩) (fun hS => ?_)
        refine wpAnyH_take (i := 0) (v := .string ⟨(ipL s d t p i b).toArray⟩) rfl (by kernel_rfl) (by kernel_rfl) (by kernel_rfl) (fun _ _ _ h => h) (Or.inl ⟨by kernel_rfl, ?_⟩) hS ?_
        · intro w' hSw
          obtain ⟨g0, g1, g2, g3, g4, g5, g6, g7, g8, g9, g10, g11, g12, g13, g14, g15, g16, g17, _⟩ := hSw
          go_simp
        simp only [List.getElem_toArray, List.getElem_cons_zero, List.getElem_cons_succ, Act.put, List.setIfInBounds_toArray, List.set_cons_zero, List.set_cons_succ]
        refine wpAnyH_take (i := 1) (v := .agg #[.int .i64 s, .int .i64 d, .int .i64 t, .int .i64 p, .int .i64 i, .string ⟨b.toArray⟩]) rfl (by kernel_rfl) (by kernel_rfl) (by kernel_rfl) (fun _ _ _ h => h) (Or.inl ⟨by kernel_rfl, ?_⟩) hS ?_
        · intro w' hSw
          obtain ⟨g0, g1, g2, g3, g4, g5, g6, g7, g8, g9, g10, g11, g12, g13, g14, g15, g16, g17, _⟩ := hSw
          go_simp
        simp only [List.getElem_toArray, List.getElem_cons_zero, List.getElem_cons_succ, Act.put, List.setIfInBounds_toArray, List.set_cons_zero, List.set_cons_succ]
        refine wpAnyH_ready (rs := [2]) (by kernel_rfl) (List.cons_ne_nil _ _) ?_
        refine AllReadyH.cons rfl (fun K hK => ?_) AllReadyH.nil
        go_simp
        go_at_call 14; refine (ip_spec _ _ _ _ _ _ _).mono ?_; rintro e w9 ⟨rfl, hg⟩; have q0 := hg.cell (a := ⟨w1.heap.size, 0, none⟩) (v := .int .i64 s) hS.1 (by simp); have q1 := hg.cell (a := ⟨w1.heap.size, 1, none⟩) (v := .int .i64 d) hS.2.1 (by simp); have q2 := hg.cell (a := ⟨w1.heap.size, 2, none⟩) (v := .int .i64 t) hS.2.2.1 (by simp); have q3 := hg.cell (a := ⟨w1.heap.size, 3, none⟩) (v := .int .i64 p) hS.2.2.2.1 (by simp); have q4 := hg.cell (a := ⟨w1.heap.size, 4, none⟩) (v := .int .i64 i) hS.2.2.2.2.1 (by simp); have q5 := hg.cell (a := ⟨w1.heap.size, 5, none⟩) (v := .string ⟨b.toArray⟩) hS.2.2.2.2.2.1 (by simp); have q6 := hg.cell (a := ⟨w4.heap.size, 0, none⟩) (v := .int .i64 S) hS.2.2.2.2.2.2.1 (by simp); have q7 := hg.cell (a := ⟨w4.heap.size, 1, none⟩) (v := .int .i64 D) hS.2.2.2.2.2.2.2.1 (by simp); have q8 := hg.cell (a := ⟨w4.heap.size, 2, none⟩) (v := .int .i64 T) hS.2.2.2.2.2.2.2.2.1 (by simp); have q9 := hg.cell (a := ⟨w4.heap.size, 3, none⟩) (v := .int .i64 P) hS.2.2.2.2.2.2.2.2.2.1 (by simp); have q10 := hg.cell (a := ⟨w4.heap.size, 4, none⟩) (v := .int .i64 I) hS.2.2.2.2.2.2.2.2.2.2.1 (by simp); have q11 := hg.cell (a := ⟨w4.heap.size, 5, none⟩) (v := .string ⟨B.toArray⟩) hS.2.2.2.2.2.2.2.2.2.2.2.1 (by simp); have q12 := hg.cell (a := ⟨w5.heap.size, 0, none⟩) (v := .int .i64 S) hS.2.2.2.2.2.2.2.2.2.2.2.2.1 (by simp); have q13 := hg.cell (a := ⟨w5.heap.size, 1, none⟩) (v := .int .i64 D) hS.2.2.2.2.2.2.2.2.2.2.2.2.2.1 (by simp); have q14 := hg.cell (a := ⟨w5.heap.size, 2, none⟩) (v := .int .i64 T) hS.2.2.2.2.2.2.2.2.2.2.2.2.2.2.1 (by simp); have q15 := hg.cell (a := ⟨w5.heap.size, 3, none⟩) (v := .int .i64 P) hS.2.2.2.2.2.2.2.2.2.2.2.2.2.2.2.1 (by simp); have q16 := hg.cell (a := ⟨w5.heap.size, 4, none⟩) (v := .int .i64 I) hS.2.2.2.2.2.2.2.2.2.2.2.2.2.2.2.2.1 (by simp); have q17 := hg.cell (a := ⟨w5.heap.size, 5, none⟩) (v := .string ⟨B.toArray⟩) hS.2.2.2.2.2.2.2.2.2.2.2.2.2.2.2.2.2.1 (by simp); have qg := grownBy_trans hS.2.2.2.2.2.2.2.2.2.2.2.2.2.2.2.2.2.2 hg
        refine hK.out _ _ (by exact ⟨q0, q1, q2, q3, q4, q5, q6, q7, q8, q9, q10, q11, q12, q13, q14, q15, q16, q17, qg⟩) (fun hS => ?_)
        clear hK K q0 q1 q2 q3 q4 q5 q6 q7 q8 q9 q10 q11 q12 q13 q14 q15 q16 q17 qg hg
        try simp only [List.getElem_toArray, List.getElem_cons_zero, List.getElem_cons_succ, Act.put, List.setIfInBounds_toArray, List.set_cons_zero, List.set_cons_succ]
        refine wpAnyH_take (i := 3) (v := .bool false) rfl (by kernel_rfl) (by kernel_rfl) (by kernel_rfl) (fun _ _ _ h => h) (Or.inl ⟨by kernel_rfl, ?_⟩) hS ?_
        · intro w' hSw
          obtain ⟨g0, g1, g2, g3, g4, g5, g6, g7, g8, g9, g10, g11, g12, g13, g14, g15, g16, g17, _⟩ := hSw
          go_simp
        simp only [List.getElem_toArray, List.getElem_cons_zero, List.getElem_cons_succ, Act.put, List.setIfInBounds_toArray, List.set_cons_zero, List.set_cons_succ]
        refine wpAnyH_take (i := 4) (v := .bool false) rfl (by kernel_rfl) (by kernel_rfl) (by kernel_rfl) (fun _ _ _ h => h) (Or.inl ⟨by kernel_rfl, ?_⟩) hS ?_
        · intro w' hSw
          obtain ⟨g0, g1, g2, g3, g4, g5, g6, g7, g8, g9, g10, g11, g12, g13, g14, g15, g16, g17, _⟩ := hSw
          go_simp
        simp only [List.getElem_toArray, List.getElem_cons_zero, List.getElem_cons_succ, Act.put, List.setIfInBounds_toArray, List.set_cons_zero, List.set_cons_succ]
        refine wpAnyH_take (i := 5) (v := .agg #[.int .i64 S, .int .i64 D, .int .i64 T, .int .i64 P, .int .i64 I, .string ⟨B.toArray⟩]) rfl (by kernel_rfl) (by kernel_rfl) (by kernel_rfl) (fun _ _ _ h => h) (Or.inl ⟨by kernel_rfl, ?_⟩) hS ?_
        · intro w' hSw
          obtain ⟨g0, g1, g2, g3, g4, g5, g6, g7, g8, g9, g10, g11, g12, g13, g14, g15, g16, g17, _⟩ := hSw
          go_simp
        simp only [List.getElem_toArray, List.getElem_cons_zero, List.getElem_cons_succ, Act.put, List.setIfInBounds_toArray, List.set_cons_zero, List.set_cons_succ]
        refine wpAnyH_take (i := 6) (v := .agg #[.int .i64 S, .int .i64 D, .int .i64 T, .int .i64 P, .int .i64 I, .string ⟨B.toArray⟩]) rfl (by kernel_rfl) (by kernel_rfl) (by kernel_rfl) (fun _ _ _ h => h) (Or.inl ⟨by kernel_rfl, ?_⟩) hS ?_
        · intro w' hSw
          obtain ⟨g0, g1, g2, g3, g4, g5, g6, g7, g8, g9, g10, g11, g12, g13, g14, g15, g16, g17, _⟩ := hSw
          go_simp
        simp only [List.getElem_toArray, List.getElem_cons_zero, List.getElem_cons_succ, Act.put, List.setIfInBounds_toArray, List.set_cons_zero, List.set_cons_succ]
        refine wpAnyH_take (i := 7) (v := .bool false) rfl (by kernel_rfl) (by kernel_rfl) (by kernel_rfl) (fun _ _ _ h => h) (Or.inl ⟨by kernel_rfl, ?_⟩) hS ?_
        · intro w' hSw
          obtain ⟨g0, g1, g2, g3, g4, g5, g6, g7, g8, g9, g10, g11, g12, g13, g14, g15, g16, g17, _⟩ := hSw
          go_simp
        simp only [List.getElem_toArray, List.getElem_cons_zero, List.getElem_cons_succ, Act.put, List.setIfInBounds_toArray, List.set_cons_zero, List.set_cons_succ]
        refine wpAnyH_take (i := 8) (v := .bool false) rfl (by kernel_rfl) (by kernel_rfl) (by kernel_rfl) (fun _ _ _ h => h) (Or.inl ⟨by kernel_rfl, ?_⟩) hS ?_
        · intro w' hSw
          obtain ⟨g0, g1, g2, g3, g4, g5, g6, g7, g8, g9, g10, g11, g12, g13, g14, g15, g16, g17, _⟩ := hSw
          go_simp
        simp only [List.getElem_toArray, List.getElem_cons_zero, List.getElem_cons_succ, Act.put, List.setIfInBounds_toArray, List.set_cons_zero, List.set_cons_succ]
        refine wpAnyH_take (i := 9) (v := .bool false) rfl (by kernel_rfl) (by kernel_rfl) (by kernel_rfl) (fun _ _ _ h => h) (Or.inl ⟨by kernel_rfl, ?_⟩) hS ?_
        · intro w' hSw
          obtain ⟨g0, g1, g2, g3, g4, g5, g6, g7, g8, g9, g10, g11, g12, g13, g14, g15, g16, g17, _⟩ := hSw
          go_simp
        simp only [List.getElem_toArray, List.getElem_cons_zero, List.getElem_cons_succ, Act.put, List.setIfInBounds_toArray, List.set_cons_zero, List.set_cons_succ]
        refine wpAnyH_take (i := 10) (v := .bool false) rfl (by kernel_rfl) (by kernel_rfl) (by kernel_rfl) (fun _ _ _ h => h) (Or.inl ⟨by kernel_rfl, ?_⟩) hS ?_
        · intro w' hSw
          obtain ⟨g0, g1, g2, g3, g4, g5, g6, g7, g8, g9, g10, g11, g12, g13, g14, g15, g16, g17, _⟩ := hSw
          go_simp
        simp only [List.getElem_toArray, List.getElem_cons_zero, List.getElem_cons_succ, Act.put, List.setIfInBounds_toArray, List.set_cons_zero, List.set_cons_succ]
        refine wpAnyH_take (i := 11) (v := .bool false) rfl (by kernel_rfl) (by kernel_rfl) (by kernel_rfl) (fun _ _ _ h => h) (Or.inl ⟨by kernel_rfl, ?_⟩) hS ?_
        · intro w' hSw
          obtain ⟨g0, g1, g2, g3, g4, g5, g6, g7, g8, g9, g10, g11, g12, g13, g14, g15, g16, g17, _⟩ := hSw
          go_simp
        simp only [List.getElem_toArray, List.getElem_cons_zero, List.getElem_cons_succ, Act.put, List.setIfInBounds_toArray, List.set_cons_zero, List.set_cons_succ]
        refine wpAnyH_take (i := 12) (v := .bool false) rfl (by kernel_rfl) (by kernel_rfl) (by kernel_rfl) (fun _ _ _ h => h) (Or.inl ⟨by kernel_rfl, ?_⟩) hS ?_
        · intro w' hSw
          obtain ⟨g0, g1, g2, g3, g4, g5, g6, g7, g8, g9, g10, g11, g12, g13, g14, g15, g16, g17, _⟩ := hSw
          go_simp
        simp only [List.getElem_toArray, List.getElem_cons_zero, List.getElem_cons_succ, Act.put, List.setIfInBounds_toArray, List.set_cons_zero, List.set_cons_succ]
        refine wpAnyH_take (i := 13) (v := .bool false) rfl (by kernel_rfl) (by kernel_rfl) (by kernel_rfl) (fun _ _ _ h => h) (Or.inl ⟨by kernel_rfl, ?_⟩) hS ?_
        · intro w' hSw
          obtain ⟨g0, g1, g2, g3, g4, g5, g6, g7, g8, g9, g10, g11, g12, g13, g14, g15, g16, g17, _⟩ := hSw
          go_simp
        simp only [List.getElem_toArray, List.getElem_cons_zero, List.getElem_cons_succ, Act.put, List.setIfInBounds_toArray, List.set_cons_zero, List.set_cons_succ]
        refine wpAnyH_take (i := 14) (v := .bool false) rfl (by kernel_rfl) (by kernel_rfl) (by kernel_rfl) (fun _ _ _ h => h) (Or.inl ⟨by kernel_rfl, ?_⟩) hS ?_
        · intro w' hSw
          obtain ⟨g0, g1, g2, g3, g4, g5, g6, g7, g8, g9, g10, g11, g12, g13, g14, g15, g16, g17, _⟩ := hSw
          go_simp
        simp only [List.getElem_toArray, List.getElem_cons_zero, List.getElem_cons_succ, Act.put, List.setIfInBounds_toArray, List.set_cons_zero, List.set_cons_succ]
        refine wpAnyH_take (i := 15) (v := .agg #[.int .i64 s, .int .i64 d, .int .i64 t, .int .i64 p, .int .i64 i, .string ⟨b.toArray⟩]) rfl (by kernel_rfl) (by kernel_rfl) (by kernel_rfl) (fun _ _ _ h => h) (Or.inl ⟨by kernel_rfl, ?_⟩) hS ?_
        · intro w' hSw
          obtain ⟨g0, g1, g2, g3, g4, g5, g6, g7, g8, g9, g10, g11, g12, g13, g14, g15, g16, g17, _⟩ := hSw
          go_simp
        simp only [List.getElem_toArray, List.getElem_cons_zero, List.getElem_cons_succ, Act.put, List.setIfInBounds_toArray, List.set_cons_zero, List.set_cons_succ]
        refine wpAnyH_take (i := 17) (v := .agg #[.int .i64 s, .int .i64 d, .int .i64 t, .int .i64 p, .int .i64 i, .string ⟨b.toArray⟩]) rfl (by kernel_rfl) (by kernel_rfl) (by kernel_rfl) (fun _ _ _ h => h) (Or.inl ⟨by kernel_rfl, ?_⟩) hS ?_
        · intro w' hSw
          obtain ⟨g0, g1, g2, g3, g4, g5, g6, g7, g8, g9, g10, g11, g12, g13, g14, g15, g16, g17, _⟩ := hSw
          go_simp
        simp only [List.getElem_toArray, List.getElem_cons_zero, List.getElem_cons_succ, Act.put, List.setIfInBounds_toArray, List.set_cons_zero, List.set_cons_succ]
        refine wpAnyH_ready (rs := [16]) (by kernel_rfl) (List.cons_ne_nil _ _) ?_
        refine AllReadyH.cons rfl (fun K hK => ?_) AllReadyH.nil
        go_simp
        go_at_call 15; refine (ip_ok_impl _ _ _ _ _ _ _).mono ?_; rintro e w9 ⟨rfl, hg⟩; rw [HD.out]; have q0 := hg.cell (a := ⟨w1.heap.size, 0, none⟩) (v := .int .i64 s) hS.1 (by simp); have q1 := hg.cell (a := ⟨w1.heap.size, 1, none⟩) (v := .int .i64 d) hS.2.1 (by simp); have q2 := hg.cell (a := ⟨w1.heap.size, 2, none⟩) (v := .int .i64 t) hS.2.2.1 (by simp); have q3 := hg.cell (a := ⟨w1.heap.size, 3, none⟩) (v := .int .i64 p) hS.2.2.2.1 (by simp); have q4 := hg.cell (a := ⟨w1.heap.size, 4, none⟩) (v := .int .i64 i) hS.2.2.2.2.1 (by simp); have q5 := hg.cell (a := ⟨w1.heap.size, 5, none⟩) (v := .string ⟨b.toArray⟩) hS.2.2.2.2.2.1 (by simp); have q6 := hg.cell (a := ⟨w4.heap.size, 0, none⟩) (v := .int .i64 S) hS.2.2.2.2.2.2.1 (by simp); have q7 := hg.cell (a := ⟨w4.heap.size, 1, none⟩) (v := .int .i64 D) hS.2.2.2.2.2.2.2.1 (by simp); have q8 := hg.cell (a := ⟨w4.heap.size, 2, none⟩) (v := .int .i64 T) hS.2.2.2.2.2.2.2.2.1 (by simp); have q9 := hg.cell (a := ⟨w4.heap.size, 3, none⟩) (v := .int .i64 P) hS.2.2.2.2.2.2.2.2.2.1 (by simp); have q10 := hg.cell (a := ⟨w4.heap.size, 4, none⟩) (v := .int .i64 I) hS.2.2.2.2.2.2.2.2.2.2.1 (by simp); have q11 := hg.cell (a := ⟨w4.heap.size, 5, none⟩) (v := .string ⟨B.toArray⟩) hS.2.2.2.2.2.2.2.2.2.2.2.1 (by simp); have q12 := hg.cell (a := ⟨w5.heap.size, 0, none⟩) (v := .int .i64 S) hS.2.2.2.2.2.2.2.2.2.2.2.2.1 (by simp); have q13 := hg.cell (a := ⟨w5.heap.size, 1, none⟩) (v := .int .i64 D) hS.2.2.2.2.2.2.2.2.2.2.2.2.2.1 (by simp); have q14 := hg.cell (a := ⟨w5.heap.size, 2, none⟩) (v := .int .i64 T) hS.2.2.2.2.2.2.2.2.2.2.2.2.2.2.1 (by simp); have q15 := hg.cell (a := ⟨w5.heap.size, 3, none⟩) (v := .int .i64 P) hS.2.2.2.2.2.2.2.2.2.2.2.2.2.2.2.1 (by simp); have q16 := hg.cell (a := ⟨w5.heap.size, 4, none⟩) (v := .int .i64 I) hS.2.2.2.2.2.2.2.2.2.2.2.2.2.2.2.2.1 (by simp); have q17 := hg.cell (a := ⟨w5.heap.size, 5, none⟩) (v := .string ⟨B.toArray⟩) hS.2.2.2.2.2.2.2.2.2.2.2.2.2.2.2.2.2.1 (by simp); have qg := grownBy_trans hS.2.2.2.2.2.2.2.2.2.2.2.2.2.2.2.2.2.2 hg
        refine hK.out _ _ (by exact ⟨q0, q1, q2, q3, q4, q5, q6, q7, q8, q9, q10, q11, q12, q13, q14, q15, q16, q17, qg⟩) (fun hS => ?_)
        clear hK K q0 q1 q2 q3 q4 q5 q6 q7 q8 q9 q10 q11 q12 q13 q14 q15 q16 q17 qg hg
        try simp only [List.getElem_toArray, List.getElem_cons_zero, List.getElem_cons_succ, Act.put, List.setIfInBounds_toArray, List.set_cons_zero, List.set_cons_succ]
        refine wpAnyH_ready (rs := [18]) (by kernel_rfl) (List.cons_ne_nil _ _) ?_
        refine AllReadyH.cons rfl (fun K hK => ?_) AllReadyH.nil
        go_simp
        go_at_call 16; refine (ip_ok_spec _ _ _ _ _ _ _).mono ?_; rintro e w9 ⟨rfl, hg⟩; rw [HD.out]; have q0 := hg.cell (a := ⟨w1.heap.size, 0, none⟩) (v := .int .i64 s) hS.1 (by simp); have q1 := hg.cell (a := ⟨w1.heap.size, 1, none⟩) (v := .int .i64 d) hS.2.1 (by simp); have q2 := hg.cell (a := ⟨w1.heap.size, 2, none⟩) (v := .int .i64 t) hS.2.2.1 (by simp); have q3 := hg.cell (a := ⟨w1.heap.size, 3, none⟩) (v := .int .i64 p) hS.2.2.2.1 (by simp); have q4 := hg.cell (a := ⟨w1.heap.size, 4, none⟩) (v := .int .i64 i) hS.2.2.2.2.1 (by simp); have q5 := hg.cell (a := ⟨w1.heap.size, 5, none⟩) (v := .string ⟨b.toArray⟩) hS.2.2.2.2.2.1 (by simp); have q6 := hg.cell (a := ⟨w4.heap.size, 0, none⟩) (v := .int .i64 S) hS.2.2.2.2.2.2.1 (by simp); have q7 := hg.cell (a := ⟨w4.heap.size, 1, none⟩) (v := .int .i64 D) hS.2.2.2.2.2.2.2.1 (by simp); have q8 := hg.cell (a := ⟨w4.heap.size, 2, none⟩) (v := .int .i64 T) hS.2.2.2.2.2.2.2.2.1 (by simp); have q9 := hg.cell (a := ⟨w4.heap.size, 3, none⟩) (v := .int .i64 P) hS.2.2.2.2.2.2.2.2.2.1 (by simp); have q10 := hg.cell (a := ⟨w4.heap.size, 4, none⟩) (v := .int .i64 I) hS.2.2.2.2.2.2.2.2.2.2.1 (by simp); have q11 := hg.cell (a := ⟨w4.heap.size, 5, none⟩) (v := .string ⟨B.toArray⟩) hS.2.2.2.2.2.2.2.2.2.2.2.1 (by simp); have q12 := hg.cell (a := ⟨w5.heap.size, 0, none⟩) (v := .int .i64 S) hS.2.2.2.2.2.2.2.2.2.2.2.2.1 (by simp); have q13 := hg.cell (a := ⟨w5.heap.size, 1, none⟩) (v := .int .i64 D) hS.2.2.2.2.2.2.2.2.2.2.2.2.2.1 (by simp); have q14 := hg.cell (a := ⟨w5.heap.size, 2, none⟩) (v := .int .i64 T) hS.2.2.2.2.2.2.2.2.2.2.2.2.2.2.1 (by simp); have q15 := hg.cell (a := ⟨w5.heap.size, 3, none⟩) (v := .int .i64 P) hS.2.2.2.2.2.2.2.2.2.2.2.2.2.2.2.1 (by simp); have q16 := hg.cell (a := ⟨w5.heap.size, 4, none⟩) (v := .int .i64 I) hS.2.2.2.2.2.2.2.2.2.2.2.2.2.2.2.2.1 (by simp); have q17 := hg.cell (a := ⟨w5.heap.size, 5, none⟩) (v := .string ⟨B.toArray⟩) hS.2.2.2.2.2.2.2.2.2.2.2.2.2.2.2.2.2.1 (by simp); have qg := grownBy_trans hS.2.2.2.2.2.2.2.2.2.2.2.2.2.2.2.2.2.2 hg
        refine hK.out _ _ (by exact ⟨q0, q1, q2, q3, q4, q5, q6, q7, q8, q9, q10, q11, q12, q13, q14, q15, q16, q17, qg⟩) (fun hS => ?_)
        clear hK K q0 q1 q2 q3 q4 q5 q6 q7 q8 q9 q10 q11 q12 q13 q14 q15 q16 q17 qg hg
        try simp only [List.getElem_toArray, List.getElem_cons_zero, List.getElem_cons_succ, Act.put, List.setIfInBounds_toArray, List.set_cons_zero, List.set_cons_succ]
        refine wpAnyH_take (i := 19) (v := .bool false) rfl (by kernel_rfl) (by kernel_rfl) (by kernel_rfl) (fun _ _ _ h => h) (Or.inl ⟨by kernel_rfl, ?_⟩) hS ?_
        · intro w' hSw
          obtain ⟨g0, g1, g2, g3, g4, g5, g6, g7, g8, g9, g10, g11, g12, g13, g14, g15, g16, g17, _⟩ := hSw
          go_simp
        simp only [List.getElem_toArray, List.getElem_cons_zero, List.getElem_cons_succ, Act.put, List.setIfInBounds_toArray, List.set_cons_zero, List.set_cons_succ]
        refine wpAnyH_take (i := 20) (v := .bool false) rfl (by kernel_rfl) (by kernel_rfl) (by kernel_rfl) (fun _ _ _ h => h) (Or.inl ⟨by kernel_rfl, ?_⟩) hS ?_
        · intro w' hSw
          obtain ⟨g0, g1, g2, g3, g4, g5, g6, g7, g8, g9, g10, g11, g12, g13, g14, g15, g16, g17, _⟩ := hSw
          go_simp
        simp only [List.getElem_toArray, List.getElem_cons_zero, List.getElem_cons_succ, Act.put, List.setIfInBounds_toArray, List.set_cons_zero, List.set_cons_succ]
        refine wpAnyH_take (i := 21) (v := .bool false) rfl (by kernel_rfl) (by kernel_rfl) (by kernel_rfl) (fun _ _ _ h => h) (Or.inl ⟨by kernel_rfl, ?_⟩) hS ?_
        · intro w' hSw
          obtain ⟨g0, g1, g2, g3, g4, g5, g6, g7, g8, g9, g10, g11, g12, g13, g14, g15, g16, g17, _⟩ := hSw
          go_simp
        simp only [List.getElem_toArray, List.getElem_cons_zero, List.getElem_cons_succ, Act.put, List.setIfInBounds_toArray, List.set_cons_zero, List.set_cons_succ]
        refine wpAnyH_take (i := 22) (v := .bool false) rfl (by kernel_rfl) (by kernel_rfl) (by kernel_rfl) (fun _ _ _ h => h) (Or.inl ⟨by kernel_rfl, ?_⟩) hS ?_
        · intro w' hSw
          obtain ⟨g0, g1, g2, g3, g4, g5, g6, g7, g8, g9, g10, g11, g12, g13, g14, g15, g16, g17, _⟩ := hSw
          go_simp
        simp only [List.getElem_toArray, List.getElem_cons_zero, List.getElem_cons_succ, Act.put, List.setIfInBounds_toArray, List.set_cons_zero, List.set_cons_succ]
        refine wpAnyH_take (i := 23) (v := .bool false) rfl (by kernel_rfl) (by kernel_rfl) (by kernel_rfl) (fun _ _ _ h => h) (Or.inl ⟨by kernel_rfl, ?_⟩) hS ?_
        · intro w' hSw
          obtain ⟨g0, g1, g2, g3, g4, g5, g6, g7, g8, g9, g10, g11, g12, g13, g14, g15, g16, g17, _⟩ := hSw
          go_simp
        simp only [List.getElem_toArray, List.getElem_cons_zero, List.getElem_cons_succ, Act.put, List.setIfInBounds_toArray, List.set_cons_zero, List.set_cons_succ]
        refine wpAnyH_take (i := 24) (v := undef) rfl (by kernel_rfl) (by kernel_rfl) (by kernel_rfl) (fun _ _ _ h => h) (Or.inr ⟨by kernel_rfl, rfl⟩) hS ?_
        simp only [List.getElem_toArray, List.getElem_cons_zero, List.getElem_cons_succ, Act.put, List.setIfInBounds_toArray, List.set_cons_zero, List.set_cons_succ]
        refine wpAnyH_take (i := 25) (v := undef) rfl (by kernel_rfl) (by kernel_rfl) (by kernel_rfl) (fun _ _ _ h => h) (Or.inr ⟨by kernel_rfl, rfl⟩) hS ?_
        simp only [List.getElem_toArray, List.getElem_cons_zero, List.getElem_cons_succ, Act.put, List.setIfInBounds_toArray, List.set_cons_zero, List.set_cons_succ]
        refine wpAnyH_take (i := 26) (v := undef) rfl (by kernel_rfl) (by kernel_rfl) (by kernel_rfl) (fun _ _ _ h => h) (Or.inr ⟨by kernel_rfl, rfl⟩) hS ?_
        simp only [List.getElem_toArray, List.getElem_cons_zero, List.getElem_cons_succ, Act.put, List.setIfInBounds_toArray, List.set_cons_zero, List.set_cons_succ]
        refine wpAnyH_take (i := 27) (v := undef) rfl (by kernel_rfl) (by kernel_rfl) (by kernel_rfl) (fun _ _ _ h => h) (Or.inr ⟨by kernel_rfl, rfl⟩) hS ?_
        simp only [List.getElem_toArray, List.getElem_cons_zero, List.getElem_cons_succ, Act.put, List.setIfInBounds_toArray, List.set_cons_zero, List.set_cons_succ]
        refine wpAnyH_take (i := 28) (v := undef) rfl (by kernel_rfl) (by kernel_rfl) (by kernel_rfl) (fun _ _ _ h => h) (Or.inr ⟨by kernel_rfl, rfl⟩) hS ?_
        simp only [List.getElem_toArray, List.getElem_cons_zero, List.getElem_cons_succ, Act.put, List.setIfInBounds_toArray, List.set_cons_zero, List.set_cons_succ]
        refine wpAnyH_take (i := 29) (v := undef) rfl (by kernel_rfl) (by kernel_rfl) (by kernel_rfl) (fun _ _ _ h => h) (Or.inr ⟨by kernel_rfl, rfl⟩) hS ?_
        simp only [List.getElem_toArray, List.getElem_cons_zero, List.getElem_cons_succ, Act.put, List.setIfInBounds_toArray, List.set_cons_zero, List.set_cons_succ]
        refine wpAnyH_take (i := 30) (v := undef) rfl (by kernel_rfl) (by kernel_rfl) (by kernel_rfl) (fun _ _ _ h => h) (Or.inr ⟨by kernel_rfl, rfl⟩) hS ?_
        simp only [List.getElem_toArray, List.getElem_cons_zero, List.getElem_cons_succ, Act.put, List.setIfInBounds_toArray, List.set_cons_zero, List.set_cons_succ]
        refine wpAnyH_take (i := 31) (v := undef) rfl (by kernel_rfl) (by kernel_rfl) (by kernel_rfl) (fun _ _ _ h => h) (Or.inr ⟨by kernel_rfl, rfl⟩) hS ?_
        simp only [List.getElem_toArray, List.getElem_cons_zero, List.getElem_cons_succ, Act.put, List.setIfInBounds_toArray, List.set_cons_zero, List.set_cons_succ]
        refine wpAnyH_take (i := 32) (v := undef) rfl (by kernel_rfl) (by kernel_rfl) (by kernel_rfl) (fun _ _ _ h => h) (Or.inr ⟨by kernel_rfl, rfl⟩) hS ?_
        simp only [List.getElem_toArray, List.getElem_cons_zero, List.getElem_cons_succ, Act.put, List.setIfInBounds_toArray, List.set_cons_zero, List.set_cons_succ]
        refine wpAnyH_take (i := 33) (v := .bool false) rfl (by kernel_rfl) (by kernel_rfl) (by kernel_rfl) (fun _ _ _ h => h) (Or.inl ⟨by kernel_rfl, ?_⟩) hS ?_
        · intro w' hSw
          obtain ⟨g0, g1, g2, g3, g4, g5, g6, g7, g8, g9, g10, g11, g12, g13, g14, g15, g16, g17, _⟩ := hSw
          go_simp
        simp only [List.getElem_toArray, List.getElem_cons_zero, List.getElem_cons_succ, Act.put, List.setIfInBounds_toArray, List.set_cons_zero, List.set_cons_succ]
        refine wpAnyH_take (i := 34) (v := .bool false) rfl (by kernel_rfl) (by kernel_rfl) (by kernel_rfl) (fun _ _ _ h => h) (Or.inl ⟨by kernel_rfl, ?_⟩) hS ?_
        · intro w' hSw
          obtain ⟨g0, g1, g2, g3, g4, g5, g6, g7, g8, g9, g10, g11, g12, g13, g14, g15, g16, g17, _⟩ := hSw
          go_simp
        simp only [List.getElem_toArray, List.getElem_cons_zero, List.getElem_cons_succ, Act.put, List.setIfInBounds_toArray, List.set_cons_zero, List.set_cons_succ]
        refine wpAnyH_done (by kernel_rfl) ?_ _
        have HG := Lib.hid (H5.out.kept hS.2.2.2.2.2.2.2.2.2.2.2.2.2.2.2.2.2.2)
        clear hS
        obtain ⟨m0, m1, m2, m3, m4, m5⟩ := ip_facts HG.out
        have hs1 := ipL_len s d t p i b
        have hkl : ¬ 9223372036854775807 < (ipL s d t p i b).length + l.length := by omega
        go_wp2_with fail
        rw [ba_append]
        refine (back_ip s d t p i b l HE.out (by omega) _).mono ?_
        rintro e w10 ⟨rfl, hg⟩
        have HZ := Lib.hid (HG.out.kept hg)
        clear hg m0 m1 m2 m3 m4 m5
        obtain ⟨m0, m1, m2, m3, m4, m5⟩ := ip_facts HZ.out
        have hlt9 : w1.heap.size < w10.heap.size := cell_in m0
        have hsum : sum16 (({ data := (ipL s d t p i b).toArray } : ByteArray).extract 0 20).data.toList = 0 := by
          have h1 := head_sum s d t p i b [] HE.out
          rw [List.append_nil] at h1
          rw [ext_head, show ipL s d t p i b = ipT s d t p i b from if_pos HE.out]
          exact h1
        have HS := Lib.hid hsum
        clear hsum
        have hq : (({ data := (ipL s d t p i b).toArray } : ByteArray).extract 0 20).size ≤ maxLen := by
          rw [ext_head, str_size]
          unfold maxLen
          simp
          omega
        go_wp2_with fail
        refine (sum_impl _ _ hq).mono ?_
        rintro e w11 ⟨rfl, rfl⟩
        rw [HS.out]
        go_wp2_with fail
        go_ret
        exact ⟨rfl, below_new (grownBy_trans HZ.out.grown (World.grownBy_alloc _ _ _))⟩
      · obtain ⟨n, hn⟩ : ∃ n, n = 20 + B.length := ⟨_, rfl⟩
        obtain ⟨he1, he2, he3⟩ := HA.out.2.2 (by first | rfl | trivial)
        have HW := Lib.hid (And.intro hn (show ipL S D T P I B = l.take n by rw [hn]; exact he1))
        have hwr : IntKind.i64.wrap (20 + (B.length : Int)) = (n : Int) := by
          rw [hn]
          exact IntWalk.i64_in _ (by omega)
        have hn0 : 0 ≤ (n : Int) := by omega
        have hn1 : (n : Int) ≤ (l.length : Int) := by omega
        have hxn := ext_head l n
        clear hn he1 he2 he3
        go_region_held3 (fun w' => w'.cell? ⟨w1.heap.size, 0, none⟩ = some (.int .i64 s) ∧ w'.cell? ⟨w1.heap.size, 1, none⟩ = some (.int .i64 d) ∧ w'.cell? ⟨w1.heap.size, 2, none⟩ = some (.int .i64 t) ∧ w'.cell? ⟨w1.heap.size, 3, none⟩ = some (.int .i64 p) ∧ w'.cell? ⟨w1.heap.size, 4, none⟩ = some (.int .i64 i) ∧ w'.cell? ⟨w1.heap.size, 5, none⟩ = some (.string ⟨b.toArray⟩) ∧ w'.cell? ⟨w4.heap.size, 0, none⟩ = some (.int .i64 S) ∧ w'.cell? ⟨w4.heap.size, 1, none⟩ = some (.int .i64 D) ∧ w'.cell? ⟨w4.heap.size, 2, none⟩ = some (.int .i64 T) ∧ w'.cell? ⟨w4.heap.size, 3, none⟩ = some (.int .i64 P) ∧ w'.cell? ⟨w4.heap.size, 4, none⟩ = some (.int .i64 I) ∧ w'.cell? ⟨w4.heap.size, 5, none⟩ = some (.string ⟨B.toArray⟩) ∧ w'.cell? ⟨w5.heap.size, 0, none⟩ = some (.int .i64 S) ∧ w'.cell? ⟨w5.heap.size, 1, none⟩ = some (.int .i64 D) ∧ w'.cell? ⟨w5.heap.size, 2, none⟩ = some (.int .i64 T) ∧ w'.cell? ⟨w5.heap.size, 3, none⟩ = some (.int .i64 P) ∧ w'.cell? ⟨w5.heap.size, 4, none⟩ = some (.int .i64 I) ∧ w'.cell? ⟨w5.heap.size, 5, none⟩ = some (.string ⟨B.toArray⟩) ∧ w6.grownBy w' none) ((refine ⟨by first | assumption | (simp [*]; done), by first | assumption | (simp [*]; done), by first | assumption | (simp [*]; done), by first | assumption | (simp [*]; done), by first | assumption | (simp [*]; done), by first | assumption | (simp [*]; done), by first | assumption | (simp [*]; done), by first | assumption | (simp [*]; done), by first | assumption | (simp [*]; done), by first | assumption | (simp [*]; done), by first | assumption | (simp [*]; done), by first | assumption | (simp [*]; done), by first | assumption | (simp [*]; done), by first | assumption | (simp [*]; done), by first | assumption | (simp [*]; done), by first | assumption | (simp [*]; done), by first | assumption | (simp [*]; done), by first | assumption | (simp [*]; done), by first | assumption | exact grownBy_drew | exact grownBy_trans (by assumption) (by assumption)⟩))
          (first
            | (go_at_call 14; refine (ip_spec _ _ _ _ _ _ _).mono ?_; rintro e w9 ⟨rfl, hg⟩; have q0 := hg.cell (a := ⟨w1.heap.size, 0, none⟩) (v := .int .i64 s) (by assumption) (by simp); have q1 := hg.cell (a := ⟨w1.heap.size, 1, none⟩) (v := .int .i64 d) (by assumption) (by simp); have q2 := hg.cell (a := ⟨w1.heap.size, 2, none⟩) (v := .int .i64 t) (by assumption) (by simp); have q3 := hg.cell (a := ⟨w1.heap.size, 3, none⟩) (v := .int .i64 p) (by assumption) (by simp); have q4 := hg.cell (a := ⟨w1.heap.size, 4, none⟩) (v := .int .i64 i) (by assumption) (by simp); have q5 := hg.cell (a := ⟨w1.heap.size, 5, none⟩) (v := .string ⟨b.toArray⟩) (by assumption) (by simp); have q6 := hg.cell (a := ⟨w4.heap.size, 0, none⟩) (v := .int .i64 S) (by assumption) (by simp); have q7 := hg.cell (a := ⟨w4.heap.size, 1, none⟩) (v := .int .i64 D) (by assumption) (by simp); have q8 := hg.cell (a := ⟨w4.heap.size, 2, none⟩) (v := .int .i64 T) (by assumption) (by simp); have q9 := hg.cell (a := ⟨w4.heap.size, 3, none⟩) (v := .int .i64 P) (by assumption) (by simp); have q10 := hg.cell (a := ⟨w4.heap.size, 4, none⟩) (v := .int .i64 I) (by assumption) (by simp); have q11 := hg.cell (a := ⟨w4.heap.size, 5, none⟩) (v := .string ⟨B.toArray⟩) (by assumption) (by simp); have q12 := hg.cell (a := ⟨w5.heap.size, 0, none⟩) (v := .int .i64 S) (by assumption) (by simp); have q13 := hg.cell (a := ⟨w5.heap.size, 1, none⟩) (v := .int .i64 D) (by assumption) (by simp); have q14 := hg.cell (a := ⟨w5.heap.size, 2, none⟩) (v := .int .i64 T) (by assumption) (by simp); have q15 := hg.cell (a := ⟨w5.heap.size, 3, none⟩) (v := .int .i64 P) (by assumption) (by simp); have q16 := hg.cell (a := ⟨w5.heap.size, 4, none⟩) (v := .int .i64 I) (by assumption) (by simp); have q17 := hg.cell (a := ⟨w5.heap.size, 5, none⟩) (v := .string ⟨B.toArray⟩) (by assumption) (by simp); have qg : w6.grownBy w9 none := by first | exact grownBy_trans grownBy_drew hg | exact grownBy_trans (by assumption) hg)
            | (go_at_call 15; refine (ip_ok_impl _ _ _ _ _ _ _).mono ?_; rintro e w9 ⟨rfl, hg⟩; rw [HD.out]; have q0 := hg.cell (a := ⟨w1.heap.size, 0, none⟩) (v := .int .i64 s) (by assumption) (by simp); have q1 := hg.cell (a := ⟨w1.heap.size, 1, none⟩) (v := .int .i64 d) (by assumption) (by simp); have q2 := hg.cell (a := ⟨w1.heap.size, 2, none⟩) (v := .int .i64 t) (by assumption) (by simp); have q3 := hg.cell (a := ⟨w1.heap.size, 3, none⟩) (v := .int .i64 p) (by assumption) (by simp); have q4 := hg.cell (a := ⟨w1.heap.size, 4, none⟩) (v := .int .i64 i) (by assumption) (by simp); have q5 := hg.cell (a := ⟨w1.heap.size, 5, none⟩) (v := .string ⟨b.toArray⟩) (by assumption) (by simp); have q6 := hg.cell (a := ⟨w4.heap.size, 0, none⟩) (v := .int .i64 S) (by assumption) (by simp); have q7 := hg.cell (a := ⟨w4.heap.size, 1, none⟩) (v := .int .i64 D) (by assumption) (by simp); have q8 := hg.cell (a := ⟨w4.heap.size, 2, none⟩) (v := .int .i64 T) (by assumption) (by simp); have q9 := hg.cell (a := ⟨w4.heap.size, 3, none⟩) (v := .int .i64 P) (by assumption) (by simp); have q10 := hg.cell (a := ⟨w4.heap.size, 4, none⟩) (v := .int .i64 I) (by assumption) (by simp); have q11 := hg.cell (a := ⟨w4.heap.size, 5, none⟩) (v := .string ⟨B.toArray⟩) (by assumption) (by simp); have q12 := hg.cell (a := ⟨w5.heap.size, 0, none⟩) (v := .int .i64 S) (by assumption) (by simp); have q13 := hg.cell (a := ⟨w5.heap.size, 1, none⟩) (v := .int .i64 D) (by assumption) (by simp); have q14 := hg.cell (a := ⟨w5.heap.size, 2, none⟩) (v := .int .i64 T) (by assumption) (by simp); have q15 := hg.cell (a := ⟨w5.heap.size, 3, none⟩) (v := .int .i64 P) (by assumption) (by simp); have q16 := hg.cell (a := ⟨w5.heap.size, 4, none⟩) (v := .int .i64 I) (by assumption) (by simp); have q17 := hg.cell (a := ⟨w5.heap.size, 5, none⟩) (v := .string ⟨B.toArray⟩) (by assumption) (by simp); have qg : w6.grownBy w9 none := by first | exact grownBy_trans grownBy_drew hg | exact grownBy_trans (by assumption) hg)
            | (go_at_call 16; refine (ip_ok_spec _ _ _ _ _ _ _).mono ?_; rintro e w9 ⟨rfl, hg⟩; rw [HD.out]; have q0 := hg.cell (a := ⟨w1.heap.size, 0, none⟩) (v := .int .i64 s) (by assumption) (by simp); have q1 := hg.cell (a := ⟨w1.heap.size, 1, none⟩) (v := .int .i64 d) (by assumption) (by simp); have q2 := hg.cell (a := ⟨w1.heap.size, 2, none⟩) (v := .int .i64 t) (by assumption) (by simp); have q3 := hg.cell (a := ⟨w1.heap.size, 3, none⟩) (v := .int .i64 p) (by assumption) (by simp); have q4 := hg.cell (a := ⟨w1.heap.size, 4, none⟩) (v := .int .i64 i) (by assumption) (by simp); have q5 := hg.cell (a := ⟨w1.heap.size, 5, none⟩) (v := .string ⟨b.toArray⟩) (by assumption) (by simp); have q6 := hg.cell (a := ⟨w4.heap.size, 0, none⟩) (v := .int .i64 S) (by assumption) (by simp); have q7 := hg.cell (a := ⟨w4.heap.size, 1, none⟩) (v := .int .i64 D) (by assumption) (by simp); have q8 := hg.cell (a := ⟨w4.heap.size, 2, none⟩) (v := .int .i64 T) (by assumption) (by simp); have q9 := hg.cell (a := ⟨w4.heap.size, 3, none⟩) (v := .int .i64 P) (by assumption) (by simp); have q10 := hg.cell (a := ⟨w4.heap.size, 4, none⟩) (v := .int .i64 I) (by assumption) (by simp); have q11 := hg.cell (a := ⟨w4.heap.size, 5, none⟩) (v := .string ⟨B.toArray⟩) (by assumption) (by simp); have q12 := hg.cell (a := ⟨w5.heap.size, 0, none⟩) (v := .int .i64 S) (by assumption) (by simp); have q13 := hg.cell (a := ⟨w5.heap.size, 1, none⟩) (v := .int .i64 D) (by assumption) (by simp); have q14 := hg.cell (a := ⟨w5.heap.size, 2, none⟩) (v := .int .i64 T) (by assumption) (by simp); have q15 := hg.cell (a := ⟨w5.heap.size, 3, none⟩) (v := .int .i64 P) (by assumption) (by simp); have q16 := hg.cell (a := ⟨w5.heap.size, 4, none⟩) (v := .int .i64 I) (by assumption) (by simp); have q17 := hg.cell (a := ⟨w5.heap.size, 5, none⟩) (v := .string ⟨B.toArray⟩) (by assumption) (by simp); have qg : w6.grownBy w9 none := by first | exact grownBy_trans grownBy_drew hg | exact grownBy_trans (by assumption) hg)
            | (go_at_call 10; refine (ip_impl _ _ _ _ _ _ _).mono ?_; rintro e w9 ⟨rfl, hg⟩; rw [HW.out.2]; have q0 := hg.cell (a := ⟨w1.heap.size, 0, none⟩) (v := .int .i64 s) (by assumption) (by simp); have q1 := hg.cell (a := ⟨w1.heap.size, 1, none⟩) (v := .int .i64 d) (by assumption) (by simp); have q2 := hg.cell (a := ⟨w1.heap.size, 2, none⟩) (v := .int .i64 t) (by assumption) (by simp); have q3 := hg.cell (a := ⟨w1.heap.size, 3, none⟩) (v := .int .i64 p) (by assumption) (by simp); have q4 := hg.cell (a := ⟨w1.heap.size, 4, none⟩) (v := .int .i64 i) (by assumption) (by simp); have q5 := hg.cell (a := ⟨w1.heap.size, 5, none⟩) (v := .string ⟨b.toArray⟩) (by assumption) (by simp); have q6 := hg.cell (a := ⟨w4.heap.size, 0, none⟩) (v := .int .i64 S) (by assumption) (by simp); have q7 := hg.cell (a := ⟨w4.heap.size, 1, none⟩) (v := .int .i64 D) (by assumption) (by simp); have q8 := hg.cell (a := ⟨w4.heap.size, 2, none⟩) (v := .int .i64 T) (by assumption) (by simp); have q9 := hg.cell (a := ⟨w4.heap.size, 3, none⟩) (v := .int .i64 P) (by assumption) (by simp); have q10 := hg.cell (a := ⟨w4.heap.size, 4, none⟩) (v := .int .i64 I) (by assumption) (by simp); have q11 := hg.cell (a := ⟨w4.heap.size, 5, none⟩) (v := .string ⟨B.toArray⟩) (by assumption) (by simp); have q12 := hg.cell (a := ⟨w5.heap.size, 0, none⟩) (v := .int .i64 S) (by assumption) (by simp); have q13 := hg.cell (a := ⟨w5.heap.size, 1, none⟩) (v := .int .i64 D) (by assumption) (by simp); have q14 := hg.cell (a := ⟨w5.heap.size, 2, none⟩) (v := .int .i64 T) (by assumption) (by simp); have q15 := hg.cell (a := ⟨w5.heap.size, 3, none⟩) (v := .int .i64 P) (by assumption) (by simp); have q16 := hg.cell (a := ⟨w5.heap.size, 4, none⟩) (v := .int .i64 I) (by assumption) (by simp); have q17 := hg.cell (a := ⟨w5.heap.size, 5, none⟩) (v := .string ⟨B.toArray⟩) (by assumption) (by simp); have qg : w6.grownBy w9 none := by first | exact grownBy_trans grownBy_drew hg | exact grownBy_trans (by assumption) hg))
        rename_i hH
        have hS := hH
        clear hH
        have HG := Lib.hid (H5.out.kept hS.2.2.2.2.2.2.2.2.2.2.2.2.2.2.2.2.2.2)
        clear hS
        obtain ⟨m0, m1, m2, m3, m4, m5⟩ := ip_facts HG.out
        have hs1 := ipL_len s d t p i b
        have hkl : ¬ 9223372036854775807 < (ipL s d t p i b).length + l.length := by omega
        go_wp2_with fail
        rw [ba_append]
        refine (back_ip s d t p i b l HE.out (by omega) _).mono ?_
        rintro e w10 ⟨rfl, hg⟩
        have HZ := Lib.hid (HG.out.kept hg)
        clear hg m0 m1 m2 m3 m4 m5
        obtain ⟨m0, m1, m2, m3, m4, m5⟩ := ip_facts HZ.out
        have hlt9 : w1.heap.size < w10.heap.size := cell_in m0
        have hsum : sum16 (({ data := (ipL s d t p i b).toArray } : ByteArray).extract 0 20).data.toList = 0 := by
          have h1 := head_sum s d t p i b [] HE.out
          rw [List.append_nil] at h1
          rw [ext_head, show ipL s d t p i b = ipT s d t p i b from if_pos HE.out]
          exact h1
        have HS := Lib.hid hsum
        clear hsum
        have hq : (({ data := (ipL s d t p i b).toArray } : ByteArray).extract 0 20).size ≤ maxLen := by
          rw [ext_head, str_size]
          unfold maxLen
          simp
          omega
        go_wp2_with fail
        refine (sum_impl _ _ hq).mono ?_
        rintro e w11 ⟨rfl, rfl⟩
        rw [HS.out]
        go_wp2_with fail
        go_ret
        exact ⟨rfl, below_new (grownBy_trans HZ.out.grown (World.grownBy_alloc _ _ _))⟩
    · have HD := Lib.hid (decide_eq_false hok)
      have HE := Lib.hid (show ipL s d t p i b = [] from if_neg hok)
      clear hok
      rw [HE.out]
      cases x
      · refine wp_region_held_drew (S := fun w' => w'.cell? ⟨w1.heap.size, 0, none⟩ = some (.int .i64 s) ∧ w'.cell? ⟨w1.heap.size, 1, none⟩ = some (.int .i64 d) ∧ w'.cell? ⟨w1.heap.size, 2, none⟩ = some (.int .i64 t) ∧ w'.cell? ⟨w1.heap.size, 3, none⟩ = some (.int .i64 p) ∧ w'.cell? ⟨w1.heap.size, 4, none⟩ = some (.int .i64 i) ∧ w'.cell? ⟨w1.heap.size, 5, none⟩ = some (.string ⟨b.toArray⟩) ∧ w'.cell? ⟨w4.heap.size, 0, none⟩ = some (.int .i64 S) ∧ w'.cell? ⟨w4.heap.size, 1, none⟩ = some (.int .i64 D) ∧ w'.cell? ⟨w4.heap.size, 2, none⟩ = some (.int .i64 T) ∧ w'.cell? ⟨w4.heap.size, 3, none⟩ = some (.int .i64 P) ∧ w'.cell? ⟨w4.heap.size, 4, none⟩ = some (.int .i64 I) ∧ w'.cell? ⟨w4.heap.size, 5, none⟩ = some (.string ⟨B.toArray⟩) ∧ w'.cell? ⟨w5.heap.size, 0, none⟩ = some (.int .i64 S) ∧ w'.cell? ⟨w5.heap.size, 1, none⟩ = some (.int .i64 D) ∧ w'.cell? ⟨w5.heap.size, 2, none⟩ = some (.int .i64 T) ∧ w'.cell? ⟨w5.heap.size, 3, none⟩ = some (.int .i64 P) ∧ w'.cell? ⟨w5.heap.size, 4, none⟩ = some (.int .i64 I) ∧ w'.cell? ⟨w5.heap.size, 5, none⟩ = some (.string ⟨B.toArray⟩) ∧ w6.grownBy w' none) (by kernel_rfl) (by exact ⟨by first | assumption | (simp [*]; done), by first | assumption | (simp [*]; done), by first | assumption | (simp [*]; done), by first | assumption | (simp [*]; done), by first | assumption | (simp [*]; done), by first | assumption | (simp [*]; done), by first | assumption | (simp [*]; done), by first | assumption | (simp [*]; done), by first | assumption | (simp [*]; done), by first | assumption | (simp [*]; done), by first | assumption | (simp [*]; done), by first | assumption | (simp [*]; done), by first | assumption | (simp [*]; done), by first | assumption | (simp [*]; done), by first | assumption | (simp [*]; done), by first | assumption | (simp [*]; done), by first | assumption | (simp [*]; done), by first | assumption | (simp [*]; done), by first | assumption | exact grownBy_drew | exact grownBy_trans (by assumption) (by assumption)⟩) (fun hS => ?_)
        refine wpAnyH_take (i := 0) (v := .string ⟨[].toArray⟩) rfl (by kernel_rfl) (by kernel_rfl) (by kernel_rfl) (fun _ _ _ h => h) (Or.inl ⟨by kernel_rfl, ?_⟩) hS ?_
        · intro w' hSw
          obtain ⟨g0, g1, g2, g3, g4, g5, g6, g7, g8, g9, g10, g11, g12, g13, g14, g15, g16, g17, _⟩ := hSw
          go_simp
        simp only [List.getElem_toArray, List.getElem_cons_zero, List.getElem_cons_succ, Act.put, List.setIfInBounds_toArray, List.set_cons_zero, List.set_cons_succ]
        refine wpAnyH_take (i := 1) (v := .agg #[.int .i64 s, .int .i64 d, .int .i64 t, .int .i64 p, .int .i64 i, .string ⟨b.toArray⟩]) rfl (by kernel_rfl) (by kernel_rfl) (by kernel_rfl) (fun _ _ _ h => h) (Or.inl ⟨by kernel_rfl, ?_⟩) hS ?_
        · intro w' hSw
          obtain ⟨g0, g1, g2, g3, g4, g5, g6, g7, g8, g9, g10, g11, g12, g13, g14, g15, g16, g17, _⟩ := hSw
          go_simp
        simp only [List.getElem_toArray, List.getElem_cons_zero, List.getElem_cons_succ, Act.put, List.setIfInBounds_toArray, List.set_cons_zero, List.set_cons_succ]
        refine wpAnyH_ready (rs := [2]) (by kernel_rfl) (List.cons_ne_nil _ _) ?_
        refine AllReadyH.cons rfl (fun K hK => ?_) AllReadyH.nil
        go_simp
        go_at_call 14; refine (ip_spec _ _ _ _ _ _ _).mono ?_; rintro e w9 ⟨rfl, hg⟩; rw [HE.out]; have q0 := hg.cell (a := ⟨w1.heap.size, 0, none⟩) (v := .int .i64 s) hS.1 (by simp); have q1 := hg.cell (a := ⟨w1.heap.size, 1, none⟩) (v := .int .i64 d) hS.2.1 (by simp); have q2 := hg.cell (a := ⟨w1.heap.size, 2, none⟩) (v := .int .i64 t) hS.2.2.1 (by simp); have q3 := hg.cell (a := ⟨w1.heap.size, 3, none⟩) (v := .int .i64 p) hS.2.2.2.1 (by simp); have q4 := hg.cell (a := ⟨w1.heap.size, 4, none⟩) (v := .int .i64 i) hS.2.2.2.2.1 (by simp); have q5 := hg.cell (a := ⟨w1.heap.size, 5, none⟩) (v := .string ⟨b.toArray⟩) hS.2.2.2.2.2.1 (by simp); have q6 := hg.cell (a := ⟨w4.heap.size, 0, none⟩) (v := .int .i64 S) hS.2.2.2.2.2.2.1 (by simp); have q7 := hg.cell (a := ⟨w4.heap.size, 1, none⟩) (v := .int .i64 D) hS.2.2.2.2.2.2.2.1 (by simp); have q8 := hg.cell (a := ⟨w4.heap.size, 2, none⟩) (v := .int .i64 T) hS.2.2.2.2.2.2.2.2.1 (by simp); have q9 := hg.cell (a := ⟨w4.heap.size, 3, none⟩) (v := .int .i64 P) hS.2.2.2.2.2.2.2.2.2.1 (by simp); have q10 := hg.cell (a := ⟨w4.heap.size, 4, none⟩) (v := .int .i64 I) hS.2.2.2.2.2.2.2.2.2.2.1 (by simp); have q11 := hg.cell (a := ⟨w4.heap.size, 5, none⟩) (v := .string ⟨B.toArray⟩) hS.2.2.2.2.2.2.2.2.2.2.2.1 (by simp); have q12 := hg.cell (a := ⟨w5.heap.size, 0, none⟩) (v := .int .i64 S) hS.2.2.2.2.2.2.2.2.2.2.2.2.1 (by simp); have q13 := hg.cell (a := ⟨w5.heap.size, 1, none⟩) (v := .int .i64 D) hS.2.2.2.2.2.2.2.2.2.2.2.2.2.1 (by simp); have q14 := hg.cell (a := ⟨w5.heap.size, 2, none⟩) (v := .int .i64 T) hS.2.2.2.2.2.2.2.2.2.2.2.2.2.2.1 (by simp); have q15 := hg.cell (a := ⟨w5.heap.size, 3, none⟩) (v := .int .i64 P) hS.2.2.2.2.2.2.2.2.2.2.2.2.2.2.2.1 (by simp); have q16 := hg.cell (a := ⟨w5.heap.size, 4, none⟩) (v := .int .i64 I) hS.2.2.2.2.2.2.2.2.2.2.2.2.2.2.2.2.1 (by simp); have q17 := hg.cell (a := ⟨w5.heap.size, 5, none⟩) (v := .string ⟨B.toArray⟩) hS.2.2.2.2.2.2.2.2.2.2.2.2.2.2.2.2.2.1 (by simp); have qg := grownBy_trans hS.2.2.2.2.2.2.2.2.2.2.2.2.2.2.2.2.2.2 hg
        refine hK.out _ _ (by exact ⟨q0, q1, q2, q3, q4, q5, q6, q7, q8, q9, q10, q11, q12, q13, q14, q15, q16, q17, qg⟩) (fun hS => ?_)
        clear hK K q0 q1 q2 q3 q4 q5 q6 q7 q8 q9 q10 q11 q12 q13 q14 q15 q16 q17 qg hg
        try simp only [List.getElem_toArray, List.getElem_cons_zero, List.getElem_cons_succ, Act.put, List.setIfInBounds_toArray, List.set_cons_zero, List.set_cons_succ]
        refine wpAnyH_take (i := 3) (v := .bool false) rfl (by kernel_rfl) (by kernel_rfl) (by kernel_rfl) (fun _ _ _ h => h) (Or.inl ⟨by kernel_rfl, ?_⟩) hS ?_
        · intro w' hSw
          obtain ⟨g0, g1, g2, g3, g4, g5, g6, g7, g8, g9, g10, g11, g12, g13, g14, g15, g16, g17, _⟩ := hSw
          go_simp
        simp only [List.getElem_toArray, List.getElem_cons_zero, List.getElem_cons_succ, Act.put, List.setIfInBounds_toArray, List.set_cons_zero, List.set_cons_succ]
        refine wpAnyH_take (i := 4) (v := .bool false) rfl (by kernel_rfl) (by kernel_rfl) (by kernel_rfl) (fun _ _ _ h => h) (Or.inl ⟨by kernel_rfl, ?_⟩) hS ?_
        · intro w' hSw
          obtain ⟨g0, g1, g2, g3, g4, g5, g6, g7, g8, g9, g10, g11, g12, g13, g14, g15, g16, g17, _⟩ := hSw
          go_simp
        simp only [List.getElem_toArray, List.getElem_cons_zero, List.getElem_cons_succ, Act.put, List.setIfInBounds_toArray, List.set_cons_zero, List.set_cons_succ]
        refine wpAnyH_take (i := 5) (v := .agg #[.int .i64 S, .int .i64 D, .int .i64 T, .int .i64 P, .int .i64 I, .string ⟨B.toArray⟩]) rfl (by kernel_rfl) (by kernel_rfl) (by kernel_rfl) (fun _ _ _ h => h) (Or.inl ⟨by kernel_rfl, ?_⟩) hS ?_
        · intro w' hSw
          obtain ⟨g0, g1, g2, g3, g4, g5, g6, g7, g8, g9, g10, g11, g12, g13, g14, g15, g16, g17, _⟩ := hSw
          go_simp
        simp only [List.getElem_toArray, List.getElem_cons_zero, List.getElem_cons_succ, Act.put, List.setIfInBounds_toArray, List.set_cons_zero, List.set_cons_succ]
        refine wpAnyH_take (i := 6) (v := .agg #[.int .i64 S, .int .i64 D, .int .i64 T, .int .i64 P, .int .i64 I, .string ⟨B.toArray⟩]) rfl (by kernel_rfl) (by kernel_rfl) (by kernel_rfl) (fun _ _ _ h => h) (Or.inl ⟨by kernel_rfl, ?_⟩) hS ?_
        · intro w' hSw
          obtain ⟨g0, g1, g2, g3, g4, g5, g6, g7, g8, g9, g10, g11, g12, g13, g14, g15, g16, g17, _⟩ := hSw
          go_simp
        simp only [List.getElem_toArray, List.getElem_cons_zero, List.getElem_cons_succ, Act.put, List.setIfInBounds_toArray, List.set_cons_zero, List.set_cons_succ]
        refine wpAnyH_take (i := 7) (v := .bool false) rfl (by kernel_rfl) (by kernel_rfl) (by kernel_rfl) (fun _ _ _ h => h) (Or.inl ⟨by kernel_rfl, ?_⟩) hS ?_
        · intro w' hSw
          obtain ⟨g0, g1, g2, g3, g4, g5, g6, g7, g8, g9, g10, g11, g12, g13, g14, g15, g16, g17, _⟩ := hSw
          go_simp
        simp only [List.getElem_toArray, List.getElem_cons_zero, List.getElem_cons_succ, Act.put, List.setIfInBounds_toArray, List.set_cons_zero, List.set_cons_succ]
        refine wpAnyH_take (i := 8) (v := .bool false) rfl (by kernel_rfl) (by kernel_rfl) (by kernel_rfl) (fun _ _ _ h => h) (Or.inl ⟨by kernel_rfl, ?_⟩) hS ?_
        · intro w' hSw
          obtain ⟨g0, g1, g2, g3, g4, g5, g6, g7, g8, g9, g10, g11, g12, g13, g14, g15, g16, g17, _⟩ := hSw
          go_simp
        simp only [List.getElem_toArray, List.getElem_cons_zero, List.getElem_cons_succ, Act.put, List.setIfInBounds_toArray, List.set_cons_zero, List.set_cons_succ]
        refine wpAnyH_take (i := 9) (v := .bool false) rfl (by kernel_rfl) (by kernel_rfl) (by kernel_rfl) (fun _ _ _ h => h) (Or.inl ⟨by kernel_rfl, ?_⟩) hS ?_
        · intro w' hSw
          obtain ⟨g0, g1, g2, g3, g4, g5, g6, g7, g8, g9, g10, g11, g12, g13, g14, g15, g16, g17, _⟩ := hSw
          go_simp
        simp only [List.getElem_toArray, List.getElem_cons_zero, List.getElem_cons_succ, Act.put, List.setIfInBounds_toArray, List.set_cons_zero, List.set_cons_succ]
        refine wpAnyH_take (i := 10) (v := .bool false) rfl (by kernel_rfl) (by kernel_rfl) (by kernel_rfl) (fun _ _ _ h => h) (Or.inl ⟨by kernel_rfl, ?_⟩) hS ?_
        · intro w' hSw
          obtain ⟨g0, g1, g2, g3, g4, g5, g6, g7, g8, g9, g10, g11, g12, g13, g14, g15, g16, g17, _⟩ := hSw
          go_simp
        simp only [List.getElem_toArray, List.getElem_cons_zero, List.getElem_cons_succ, Act.put, List.setIfInBounds_toArray, List.set_cons_zero, List.set_cons_succ]
        refine wpAnyH_take (i := 11) (v := .bool false) rfl (by kernel_rfl) (by kernel_rfl) (by kernel_rfl) (fun _ _ _ h => h) (Or.inl ⟨by kernel_rfl, ?_⟩) hS ?_
        · intro w' hSw
          obtain ⟨g0, g1, g2, g3, g4, g5, g6, g7, g8, g9, g10, g11, g12, g13, g14, g15, g16, g17, _⟩ := hSw
          go_simp
        simp only [List.getElem_toArray, List.getElem_cons_zero, List.getElem_cons_succ, Act.put, List.setIfInBounds_toArray, List.set_cons_zero, List.set_cons_succ]
        refine wpAnyH_take (i := 12) (v := .bool false) rfl (by kernel_rfl) (by kernel_rfl) (by kernel_rfl) (fun _ _ _ h => h) (Or.inl ⟨by kernel_rfl, ?_⟩) hS ?_
        · intro w' hSw
          obtain ⟨g0, g1, g2, g3, g4, g5, g6, g7, g8, g9, g10, g11, g12, g13, g14, g15, g16, g17, _⟩ := hSw
          go_simp
        simp only [List.getElem_toArray, List.getElem_cons_zero, List.getElem_cons_succ, Act.put, List.setIfInBounds_toArray, List.set_cons_zero, List.set_cons_succ]
        refine wpAnyH_take (i := 13) (v := .bool false) rfl (by kernel_rfl) (by kernel_rfl) (by kernel_rfl) (fun _ _ _ h => h) (Or.inl ⟨by kernel_rfl, ?_⟩) hS ?_
        · intro w' hSw
          obtain ⟨g0, g1, g2, g3, g4, g5, g6, g7, g8, g9, g10, g11, g12, g13, g14, g15, g16, g17, _⟩ := hSw
          go_simp
        simp only [List.getElem_toArray, List.getElem_cons_zero, List.getElem_cons_succ, Act.put, List.setIfInBounds_toArray, List.set_cons_zero, List.set_cons_succ]
        refine wpAnyH_take (i := 14) (v := .bool false) rfl (by kernel_rfl) (by kernel_rfl) (by kernel_rfl) (fun _ _ _ h => h) (Or.inl ⟨by kernel_rfl, ?_⟩) hS ?_
        · intro w' hSw
          obtain ⟨g0, g1, g2, g3, g4, g5, g6, g7, g8, g9, g10, g11, g12, g13, g14, g15, g16, g17, _⟩ := hSw
          go_simp
        simp only [List.getElem_toArray, List.getElem_cons_zero, List.getElem_cons_succ, Act.put, List.setIfInBounds_toArray, List.set_cons_zero, List.set_cons_succ]
        refine wpAnyH_take (i := 15) (v := .agg #[.int .i64 s, .int .i64 d, .int .i64 t, .int .i64 p, .int .i64 i, .string ⟨b.toArray⟩]) rfl (by kernel_rfl) (by kernel_rfl) (by kernel_rfl) (fun _ _ _ h => h) (Or.inl ⟨by kernel_rfl, ?_⟩) hS ?_
        · intro w' hSw
          obtain ⟨g0, g1, g2, g3, g4, g5, g6, g7, g8, g9, g10, g11, g12, g13, g14, g15, g16, g17, _⟩ := hSw
          go_simp
        simp only [List.getElem_toArray, List.getElem_cons_zero, List.getElem_cons_succ, Act.put, List.setIfInBounds_toArray, List.set_cons_zero, List.set_cons_succ]
        refine wpAnyH_take (i := 17) (v := .agg #[.int .i64 s, .int .i64 d, .int .i64 t, .int .i64 p, .int .i64 i, .string ⟨b.toArray⟩]) rfl (by kernel_rfl) (by kernel_rfl) (by kernel_rfl) (fun _ _ _ h => h) (Or.inl ⟨by kernel_rfl, ?_⟩) hS ?_
        · intro w' hSw
          obtain ⟨g0, g1, g2, g3, g4, g5, g6, g7, g8, g9, g10, g11, g12, g13, g14, g15, g16, g17, _⟩ := hSw
          go_simp
        simp only [List.getElem_toArray, List.getElem_cons_zero, List.getElem_cons_succ, Act.put, List.setIfInBounds_toArray, List.set_cons_zero, List.set_cons_succ]
        refine wpAnyH_ready (rs := [16]) (by kernel_rfl) (List.cons_ne_nil _ _) ?_
        refine AllReadyH.cons rfl (fun K hK => ?_) AllReadyH.nil
        go_simp
        go_at_call 15; refine (ip_ok_impl _ _ _ _ _ _ _).mono ?_; rintro e w9 ⟨rfl, hg⟩; rw [HD.out]; have q0 := hg.cell (a := ⟨w1.heap.size, 0, none⟩) (v := .int .i64 s) hS.1 (by simp); have q1 := hg.cell (a := ⟨w1.heap.size, 1, none⟩) (v := .int .i64 d) hS.2.1 (by simp); have q2 := hg.cell (a := ⟨w1.heap.size, 2, none⟩) (v := .int .i64 t) hS.2.2.1 (by simp); have q3 := hg.cell (a := ⟨w1.heap.size, 3, none⟩) (v := .int .i64 p) hS.2.2.2.1 (by simp); have q4 := hg.cell (a := ⟨w1.heap.size, 4, none⟩) (v := .int .i64 i) hS.2.2.2.2.1 (by simp); have q5 := hg.cell (a := ⟨w1.heap.size, 5, none⟩) (v := .string ⟨b.toArray⟩) hS.2.2.2.2.2.1 (by simp); have q6 := hg.cell (a := ⟨w4.heap.size, 0, none⟩) (v := .int .i64 S) hS.2.2.2.2.2.2.1 (by simp); have q7 := hg.cell (a := ⟨w4.heap.size, 1, none⟩) (v := .int .i64 D) hS.2.2.2.2.2.2.2.1 (by simp); have q8 := hg.cell (a := ⟨w4.heap.size, 2, none⟩) (v := .int .i64 T) hS.2.2.2.2.2.2.2.2.1 (by simp); have q9 := hg.cell (a := ⟨w4.heap.size, 3, none⟩) (v := .int .i64 P) hS.2.2.2.2.2.2.2.2.2.1 (by simp); have q10 := hg.cell (a := ⟨w4.heap.size, 4, none⟩) (v := .int .i64 I) hS.2.2.2.2.2.2.2.2.2.2.1 (by simp); have q11 := hg.cell (a := ⟨w4.heap.size, 5, none⟩) (v := .string ⟨B.toArray⟩) hS.2.2.2.2.2.2.2.2.2.2.2.1 (by simp); have q12 := hg.cell (a := ⟨w5.heap.size, 0, none⟩) (v := .int .i64 S) hS.2.2.2.2.2.2.2.2.2.2.2.2.1 (by simp); have q13 := hg.cell (a := ⟨w5.heap.size, 1, none⟩) (v := .int .i64 D) hS.2.2.2.2.2.2.2.2.2.2.2.2.2.1 (by simp); have q14 := hg.cell (a := ⟨w5.heap.size, 2, none⟩) (v := .int .i64 T) hS.2.2.2.2.2.2.2.2.2.2.2.2.2.2.1 (by simp); have q15 := hg.cell (a := ⟨w5.heap.size, 3, none⟩) (v := .int .i64 P) hS.2.2.2.2.2.2.2.2.2.2.2.2.2.2.2.1 (by simp); have q16 := hg.cell (a := ⟨w5.heap.size, 4, none⟩) (v := .int .i64 I) hS.2.2.2.2.2.2.2.2.2.2.2.2.2.2.2.2.1 (by simp); have q17 := hg.cell (a := ⟨w5.heap.size, 5, none⟩) (v := .string ⟨B.toArray⟩) hS.2.2.2.2.2.2.2.2.2.2.2.2.2.2.2.2.2.1 (by simp); have qg := grownBy_trans hS.2.2.2.2.2.2.2.2.2.2.2.2.2.2.2.2.2.2 hg
        refine hK.out _ _ (by exact ⟨q0, q1, q2, q3, q4, q5, q6, q7, q8, q9, q10, q11, q12, q13, q14, q15, q16, q17, qg⟩) (fun hS => ?_)
        clear hK K q0 q1 q2 q3 q4 q5 q6 q7 q8 q9 q10 q11 q12 q13 q14 q15 q16 q17 qg hg
        try simp only [List.getElem_toArray, List.getElem_cons_zero, List.getElem_cons_succ, Act.put, List.setIfInBounds_toArray, List.set_cons_zero, List.set_cons_succ]
        refine wpAnyH_ready (rs := [18]) (by kernel_rfl) (List.cons_ne_nil _ _) ?_
        refine AllReadyH.cons rfl (fun K hK => ?_) AllReadyH.nil
        go_simp
        go_at_call 16; refine (ip_ok_spec _ _ _ _ _ _ _).mono ?_; rintro e w9 ⟨rfl, hg⟩; rw [HD.out]; have q0 := hg.cell (a := ⟨w1.heap.size, 0, none⟩) (v := .int .i64 s) hS.1 (by simp); have q1 := hg.cell (a := ⟨w1.heap.size, 1, none⟩) (v := .int .i64 d) hS.2.1 (by simp); have q2 := hg.cell (a := ⟨w1.heap.size, 2, none⟩) (v := .int .i64 t) hS.2.2.1 (by simp); have q3 := hg.cell (a := ⟨w1.heap.size, 3, none⟩) (v := .int .i64 p) hS.2.2.2.1 (by simp); have q4 := hg.cell (a := ⟨w1.heap.size, 4, none⟩) (v := .int .i64 i) hS.2.2.2.2.1 (by simp); have q5 := hg.cell (a := ⟨w1.heap.size, 5, none⟩) (v := .string ⟨b.toArray⟩) hS.2.2.2.2.2.1 (by simp); have q6 := hg.cell (a := ⟨w4.heap.size, 0, none⟩) (v := .int .i64 S) hS.2.2.2.2.2.2.1 (by simp); have q7 := hg.cell (a := ⟨w4.heap.size, 1, none⟩) (v := .int .i64 D) hS.2.2.2.2.2.2.2.1 (by simp); have q8 := hg.cell (a := ⟨w4.heap.size, 2, none⟩) (v := .int .i64 T) hS.2.2.2.2.2.2.2.2.1 (by simp); have q9 := hg.cell (a := ⟨w4.heap.size, 3, none⟩) (v := .int .i64 P) hS.2.2.2.2.2.2.2.2.2.1 (by simp); have q10 := hg.cell (a := ⟨w4.heap.size, 4, none⟩) (v := .int .i64 I) hS.2.2.2.2.2.2.2.2.2.2.1 (by simp); have q11 := hg.cell (a := ⟨w4.heap.size, 5, none⟩) (v := .string ⟨B.toArray⟩) hS.2.2.2.2.2.2.2.2.2.2.2.1 (by simp); have q12 := hg.cell (a := ⟨w5.heap.size, 0, none⟩) (v := .int .i64 S) hS.2.2.2.2.2.2.2.2.2.2.2.2.1 (by simp); have q13 := hg.cell (a := ⟨w5.heap.size, 1, none⟩) (v := .int .i64 D) hS.2.2.2.2.2.2.2.2.2.2.2.2.2.1 (by simp); have q14 := hg.cell (a := ⟨w5.heap.size, 2, none⟩) (v := .int .i64 T) hS.2.2.2.2.2.2.2.2.2.2.2.2.2.2.1 (by simp); have q15 := hg.cell (a := ⟨w5.heap.size, 3, none⟩) (v := .int .i64 P) hS.2.2.2.2.2.2.2.2.2.2.2.2.2.2.2.1 (by simp); have q16 := hg.cell (a := ⟨w5.heap.size, 4, none⟩) (v := .int .i64 I) hS.2.2.2.2.2.2.2.2.2.2.2.2.2.2.2.2.1 (by simp); have q17 := hg.cell (a := ⟨w5.heap.size, 5, none⟩) (v := .string ⟨B.toArray⟩) hS.2.2.2.2.2.2.2.2.2.2.2.2.2.2.2.2.2.1 (by simp); have qg := grownBy_trans hS.2.2.2.2.2.2.2.2.2.2.2.2.2.2.2.2.2.2 hg
        refine hK.out _ _ (by exact ⟨q0, q1, q2, q3, q4, q5, q6, q7, q8, q9, q10, q11, q12, q13, q14, q15, q16, q17, qg⟩) (fun hS => ?_)
        clear hK K q0 q1 q2 q3 q4 q5 q6 q7 q8 q9 q10 q11 q12 q13 q14 q15 q16 q17 qg hg
        try simp only [List.getElem_toArray, List.getElem_cons_zero, List.getElem_cons_succ, Act.put, List.setIfInBounds_toArray, List.set_cons_zero, List.set_cons_succ]
        refine wpAnyH_take (i := 19) (v := .bool false) rfl (by kernel_rfl) (by kernel_rfl) (by kernel_rfl) (fun _ _ _ h => h) (Or.inl ⟨by kernel_rfl, ?_⟩) hS ?_
        · intro w' hSw
          obtain ⟨g0, g1, g2, g3, g4, g5, g6, g7, g8, g9, g10, g11, g12, g13, g14, g15, g16, g17, _⟩ := hSw
          go_simp
        simp only [List.getElem_toArray, List.getElem_cons_zero, List.getElem_cons_succ, Act.put, List.setIfInBounds_toArray, List.set_cons_zero, List.set_cons_succ]
        refine wpAnyH_take (i := 20) (v := .bool false) rfl (by kernel_rfl) (by kernel_rfl) (by kernel_rfl) (fun _ _ _ h => h) (Or.inl ⟨by kernel_rfl, ?_⟩) hS ?_
        · intro w' hSw
          obtain ⟨g0, g1, g2, g3, g4, g5, g6, g7, g8, g9, g10, g11, g12, g13, g14, g15, g16, g17, _⟩ := hSw
          go_simp
        simp only [List.getElem_toArray, List.getElem_cons_zero, List.getElem_cons_succ, Act.put, List.setIfInBounds_toArray, List.set_cons_zero, List.set_cons_succ]
        refine wpAnyH_take (i := 21) (v := .bool false) rfl (by kernel_rfl) (by kernel_rfl) (by kernel_rfl) (fun _ _ _ h => h) (Or.inl ⟨by kernel_rfl, ?_⟩) hS ?_
        · intro w' hSw
          obtain ⟨g0, g1, g2, g3, g4, g5, g6, g7, g8, g9, g10, g11, g12, g13, g14, g15, g16, g17, _⟩ := hSw
          go_simp
        simp only [List.getElem_toArray, List.getElem_cons_zero, List.getElem_cons_succ, Act.put, List.setIfInBounds_toArray, List.set_cons_zero, List.set_cons_succ]
        refine wpAnyH_take (i := 22) (v := .bool false) rfl (by kernel_rfl) (by kernel_rfl) (by kernel_rfl) (fun _ _ _ h => h) (Or.inl ⟨by kernel_rfl, ?_⟩) hS ?_
        · intro w' hSw
          obtain ⟨g0, g1, g2, g3, g4, g5, g6, g7, g8, g9, g10, g11, g12, g13, g14, g15, g16, g17, _⟩ := hSw
          go_simp
        simp only [List.getElem_toArray, List.getElem_cons_zero, List.getElem_cons_succ, Act.put, List.setIfInBounds_toArray, List.set_cons_zero, List.set_cons_succ]
        refine wpAnyH_take (i := 23) (v := .bool false) rfl (by kernel_rfl) (by kernel_rfl) (by kernel_rfl) (fun _ _ _ h => h) (Or.inl ⟨by kernel_rfl, ?_⟩) hS ?_
        · intro w' hSw
          obtain ⟨g0, g1, g2, g3, g4, g5, g6, g7, g8, g9, g10, g11, g12, g13, g14, g15, g16, g17, _⟩ := hSw
          go_simp
        simp only [List.getElem_toArray, List.getElem_cons_zero, List.getElem_cons_succ, Act.put, List.setIfInBounds_toArray, List.set_cons_zero, List.set_cons_succ]
        refine wpAnyH_take (i := 24) (v := undef) rfl (by kernel_rfl) (by kernel_rfl) (by kernel_rfl) (fun _ _ _ h => h) (Or.inr ⟨by kernel_rfl, rfl⟩) hS ?_
        simp only [List.getElem_toArray, List.getElem_cons_zero, List.getElem_cons_succ, Act.put, List.setIfInBounds_toArray, List.set_cons_zero, List.set_cons_succ]
        refine wpAnyH_take (i := 25) (v := undef) rfl (by kernel_rfl) (by kernel_rfl) (by kernel_rfl) (fun _ _ _ h => h) (Or.inr ⟨by kernel_rfl, rfl⟩) hS ?_
        simp only [List.getElem_toArray, List.getElem_cons_zero, List.getElem_cons_succ, Act.put, List.setIfInBounds_toArray, List.set_cons_zero, List.set_cons_succ]
        refine wpAnyH_take (i := 26) (v := undef) rfl (by kernel_rfl) (by kernel_rfl) (by kernel_rfl) (fun _ _ _ h => h) (Or.inr ⟨by kernel_rfl, rfl⟩) hS ?_
        simp only [List.getElem_toArray, List.getElem_cons_zero, List.getElem_cons_succ, Act.put, List.setIfInBounds_toArray, List.set_cons_zero, List.set_cons_succ]
        refine wpAnyH_take (i := 27) (v := undef) rfl (by kernel_rfl) (by kernel_rfl) (by kernel_rfl) (fun _ _ _ h => h) (Or.inr ⟨by kernel_rfl, rfl⟩) hS ?_
        simp only [List.getElem_toArray, List.getElem_cons_zero, List.getElem_cons_succ, Act.put, List.setIfInBounds_toArray, List.set_cons_zero, List.set_cons_succ]
        refine wpAnyH_take (i := 28) (v := undef) rfl (by kernel_rfl) (by kernel_rfl) (by kernel_rfl) (fun _ _ _ h => h) (Or.inr ⟨by kernel_rfl, rfl⟩) hS ?_
        simp only [List.getElem_toArray, List.getElem_cons_zero, List.getElem_cons_succ, Act.put, List.setIfInBounds_toArray, List.set_cons_zero, List.set_cons_succ]
        refine wpAnyH_take (i := 29) (v := undef) rfl (by kernel_rfl) (by kernel_rfl) (by kernel_rfl) (fun _ _ _ h => h) (Or.inr ⟨by kernel_rfl, rfl⟩) hS ?_
        simp only [List.getElem_toArray, List.getElem_cons_zero, List.getElem_cons_succ, Act.put, List.setIfInBounds_toArray, List.set_cons_zero, List.set_cons_succ]
        refine wpAnyH_take (i := 30) (v := undef) rfl (by kernel_rfl) (by kernel_rfl) (by kernel_rfl) (fun _ _ _ h => h) (Or.inr ⟨by kernel_rfl, rfl⟩) hS ?_
        simp only [List.getElem_toArray, List.getElem_cons_zero, List.getElem_cons_succ, Act.put, List.setIfInBounds_toArray, List.set_cons_zero, List.set_cons_succ]
        refine wpAnyH_take (i := 31) (v := undef) rfl (by kernel_rfl) (by kernel_rfl) (by kernel_rfl) (fun _ _ _ h => h) (Or.inr ⟨by kernel_rfl, rfl⟩) hS ?_
        simp only [List.getElem_toArray, List.getElem_cons_zero, List.getElem_cons_succ, Act.put, List.setIfInBounds_toArray, List.set_cons_zero, List.set_cons_succ]
        refine wpAnyH_take (i := 32) (v := undef) rfl (by kernel_rfl) (by kernel_rfl) (by kernel_rfl) (fun _ _ _ h => h) (Or.inr ⟨by kernel_rfl, rfl⟩) hS ?_
        simp only [List.getElem_toArray, List.getElem_cons_zero, List.getElem_cons_succ, Act.put, List.setIfInBounds_toArray, List.set_cons_zero, List.set_cons_succ]
        refine wpAnyH_take (i := 33) (v := .bool false) rfl (by kernel_rfl) (by kernel_rfl) (by kernel_rfl) (fun _ _ _ h => h) (Or.inl ⟨by kernel_rfl, ?_⟩) hS ?_
        · intro w' hSw
          obtain ⟨g0, g1, g2, g3, g4, g5, g6, g7, g8, g9, g10, g11, g12, g13, g14, g15, g16, g17, _⟩ := hSw
          go_simp
        simp only [List.getElem_toArray, List.getElem_cons_zero, List.getElem_cons_succ, Act.put, List.setIfInBounds_toArray, List.set_cons_zero, List.set_cons_succ]
        refine wpAnyH_take (i := 34) (v := .bool false) rfl (by kernel_rfl) (by kernel_rfl) (by kernel_rfl) (fun _ _ _ h => h) (Or.inl ⟨by kernel_rfl, ?_⟩) hS ?_
        · intro w' hSw
          obtain ⟨g0, g1, g2, g3, g4, g5, g6, g7, g8, g9, g10, g11, g12, g13, g14, g15, g16, g17, _⟩ := hSw
          go_simp
        simp only [List.getElem_toArray, List.getElem_cons_zero, List.getElem_cons_succ, Act.put, List.setIfInBounds_toArray, List.set_cons_zero, List.set_cons_succ]
        refine wpAnyH_done (by kernel_rfl) ?_ _
        have HG := Lib.hid (H5.out.kept hS.2.2.2.2.2.2.2.2.2.2.2.2.2.2.2.2.2.2)
        clear hS
        obtain ⟨m0, m1, m2, m3, m4, m5⟩ := ip_facts HG.out
        go_wp2_with fail
        refine (ip_ok_impl _ _ _ _ _ _ _).mono ?_
        rintro e w10 ⟨rfl, hg⟩
        rw [HD.out]
        have HZ := Lib.hid (grownBy_trans HG.out.grown hg)
        clear hg
        go_wp2_with fail
        go_ret
        exact ⟨rfl, below_new HZ.out⟩
      · obtain ⟨n, hn⟩ : ∃ n, n = 20 + B.length := ⟨_, rfl⟩
        obtain ⟨he1, he2, he3⟩ := HA.out.2.2 (by first | rfl | trivial)
        have HW := Lib.hid (And.intro hn (show ipL S D T P I B = l.take n by rw [hn]; exact he1))
        have hwr : IntKind.i64.wrap (20 + (B.length : Int)) = (n : Int) := by
          rw [hn]
          exact IntWalk.i64_in _ (by omega)
        have hn0 : 0 ≤ (n : Int) := by omega
        have hn1 : (n : Int) ≤ (l.length : Int) := by omega
        have hxn := ext_head l n
        clear hn he1 he2 he3
        go_region_held3 (fun w' => w'.cell? ⟨w1.heap.size, 0, none⟩ = some (.int .i64 s) ∧ w'.cell? ⟨w1.heap.size, 1, none⟩ = some (.int .i64 d) ∧ w'.cell? ⟨w1.heap.size, 2, none⟩ = some (.int .i64 t) ∧ w'.cell? ⟨w1.heap.size, 3, none⟩ = some (.int .i64 p) ∧ w'.cell? ⟨w1.heap.size, 4, none⟩ = some (.int .i64 i) ∧ w'.cell? ⟨w1.heap.size, 5, none⟩ = some (.string ⟨b.toArray⟩) ∧ w'.cell? ⟨w4.heap.size, 0, none⟩ = some (.int .i64 S) ∧ w'.cell? ⟨w4.heap.size, 1, none⟩ = some (.int .i64 D) ∧ w'.cell? ⟨w4.heap.size, 2, none⟩ = some (.int .i64 T) ∧ w'.cell? ⟨w4.heap.size, 3, none⟩ = some (.int .i64 P) ∧ w'.cell? ⟨w4.heap.size, 4, none⟩ = some (.int .i64 I) ∧ w'.cell? ⟨w4.heap.size, 5, none⟩ = some (.string ⟨B.toArray⟩) ∧ w'.cell? ⟨w5.heap.size, 0, none⟩ = some (.int .i64 S) ∧ w'.cell? ⟨w5.heap.size, 1, none⟩ = some (.int .i64 D) ∧ w'.cell? ⟨w5.heap.size, 2, none⟩ = some (.int .i64 T) ∧ w'.cell? ⟨w5.heap.size, 3, none⟩ = some (.int .i64 P) ∧ w'.cell? ⟨w5.heap.size, 4, none⟩ = some (.int .i64 I) ∧ w'.cell? ⟨w5.heap.size, 5, none⟩ = some (.string ⟨B.toArray⟩) ∧ w6.grownBy w' none) ((refine ⟨by first | assumption | (simp [*]; done), by first | assumption | (simp [*]; done), by first | assumption | (simp [*]; done), by first | assumption | (simp [*]; done), by first | assumption | (simp [*]; done), by first | assumption | (simp [*]; done), by first | assumption | (simp [*]; done), by first | assumption | (simp [*]; done), by first | assumption | (simp [*]; done), by first | assumption | (simp [*]; done), by first | assumption | (simp [*]; done), by first | assumption | (simp [*]; done), by first | assumption | (simp [*]; done), by first | assumption | (simp [*]; done), by first | assumption | (simp [*]; done), by first | assumption | (simp [*]; done), by first | assumption | (simp [*]; done), by first | assumption | (simp [*]; done), by first | assumption | exact grownBy_drew | exact grownBy_trans (by assumption) (by assumption)⟩))
          (first
            | (go_at_call 14; refine (ip_spec _ _ _ _ _ _ _).mono ?_; rintro e w9 ⟨rfl, hg⟩; rw [HE.out]; have q0 := hg.cell (a := ⟨w1.heap.size, 0, none⟩) (v := .int .i64 s) (by assumption) (by simp); have q1 := hg.cell (a := ⟨w1.heap.size, 1, none⟩) (v := .int .i64 d) (by assumption) (by simp); have q2 := hg.cell (a := ⟨w1.heap.size, 2, none⟩) (v := .int .i64 t) (by assumption) (by simp); have q3 := hg.cell (a := ⟨w1.heap.size, 3, none⟩) (v := .int .i64 p) (by assumption) (by simp); have q4 := hg.cell (a := ⟨w1.heap.size, 4, none⟩) (v := .int .i64 i) (by assumption) (by simp); have q5 := hg.cell (a := ⟨w1.heap.size, 5, none⟩) (v := .string ⟨b.toArray⟩) (by assumption) (by simp); have q6 := hg.cell (a := ⟨w4.heap.size, 0, none⟩) (v := .int .i64 S) (by assumption) (by simp); have q7 := hg.cell (a := ⟨w4.heap.size, 1, none⟩) (v := .int .i64 D) (by assumption) (by simp); have q8 := hg.cell (a := ⟨w4.heap.size, 2, none⟩) (v := .int .i64 T) (by assumption) (by simp); have q9 := hg.cell (a := ⟨w4.heap.size, 3, none⟩) (v := .int .i64 P) (by assumption) (by simp); have q10 := hg.cell (a := ⟨w4.heap.size, 4, none⟩) (v := .int .i64 I) (by assumption) (by simp); have q11 := hg.cell (a := ⟨w4.heap.size, 5, none⟩) (v := .string ⟨B.toArray⟩) (by assumption) (by simp); have q12 := hg.cell (a := ⟨w5.heap.size, 0, none⟩) (v := .int .i64 S) (by assumption) (by simp); have q13 := hg.cell (a := ⟨w5.heap.size, 1, none⟩) (v := .int .i64 D) (by assumption) (by simp); have q14 := hg.cell (a := ⟨w5.heap.size, 2, none⟩) (v := .int .i64 T) (by assumption) (by simp); have q15 := hg.cell (a := ⟨w5.heap.size, 3, none⟩) (v := .int .i64 P) (by assumption) (by simp); have q16 := hg.cell (a := ⟨w5.heap.size, 4, none⟩) (v := .int .i64 I) (by assumption) (by simp); have q17 := hg.cell (a := ⟨w5.heap.size, 5, none⟩) (v := .string ⟨B.toArray⟩) (by assumption) (by simp); have qg : w6.grownBy w9 none := by first | exact grownBy_trans grownBy_drew hg | exact grownBy_trans (by assumption) hg)
            | (go_at_call 15; refine (ip_ok_impl _ _ _ _ _ _ _).mono ?_; rintro e w9 ⟨rfl, hg⟩; rw [HD.out]; have q0 := hg.cell (a := ⟨w1.heap.size, 0, none⟩) (v := .int .i64 s) (by assumption) (by simp); have q1 := hg.cell (a := ⟨w1.heap.size, 1, none⟩) (v := .int .i64 d) (by assumption) (by simp); have q2 := hg.cell (a := ⟨w1.heap.size, 2, none⟩) (v := .int .i64 t) (by assumption) (by simp); have q3 := hg.cell (a := ⟨w1.heap.size, 3, none⟩) (v := .int .i64 p) (by assumption) (by simp); have q4 := hg.cell (a := ⟨w1.heap.size, 4, none⟩) (v := .int .i64 i) (by assumption) (by simp); have q5 := hg.cell (a := ⟨w1.heap.size, 5, none⟩) (v := .string ⟨b.toArray⟩) (by assumption) (by simp); have q6 := hg.cell (a := ⟨w4.heap.size, 0, none⟩) (v := .int .i64 S) (by assumption) (by simp); have q7 := hg.cell (a := ⟨w4.heap.size, 1, none⟩) (v := .int .i64 D) (by assumption) (by simp); have q8 := hg.cell (a := ⟨w4.heap.size, 2, none⟩) (v := .int .i64 T) (by assumption) (by simp); have q9 := hg.cell (a := ⟨w4.heap.size, 3, none⟩) (v := .int .i64 P) (by assumption) (by simp); have q10 := hg.cell (a := ⟨w4.heap.size, 4, none⟩) (v := .int .i64 I) (by assumption) (by simp); have q11 := hg.cell (a := ⟨w4.heap.size, 5, none⟩) (v := .string ⟨B.toArray⟩) (by assumption) (by simp); have q12 := hg.cell (a := ⟨w5.heap.size, 0, none⟩) (v := .int .i64 S) (by assumption) (by simp); have q13 := hg.cell (a := ⟨w5.heap.size, 1, none⟩) (v := .int .i64 D) (by assumption) (by simp); have q14 := hg.cell (a := ⟨w5.heap.size, 2, none⟩) (v := .int .i64 T) (by assumption) (by simp); have q15 := hg.cell (a := ⟨w5.heap.size, 3, none⟩) (v := .int .i64 P) (by assumption) (by simp); have q16 := hg.cell (a := ⟨w5.heap.size, 4, none⟩) (v := .int .i64 I) (by assumption) (by simp); have q17 := hg.cell (a := ⟨w5.heap.size, 5, none⟩) (v := .string ⟨B.toArray⟩) (by assumption) (by simp); have qg : w6.grownBy w9 none := by first | exact grownBy_trans grownBy_drew hg | exact grownBy_trans (by assumption) hg)
            | (go_at_call 16; refine (ip_ok_spec _ _ _ _ _ _ _).mono ?_; rintro e w9 ⟨rfl, hg⟩; rw [HD.out]; have q0 := hg.cell (a := ⟨w1.heap.size, 0, none⟩) (v := .int .i64 s) (by assumption) (by simp); have q1 := hg.cell (a := ⟨w1.heap.size, 1, none⟩) (v := .int .i64 d) (by assumption) (by simp); have q2 := hg.cell (a := ⟨w1.heap.size, 2, none⟩) (v := .int .i64 t) (by assumption) (by simp); have q3 := hg.cell (a := ⟨w1.heap.size, 3, none⟩) (v := .int .i64 p) (by assumption) (by simp); have q4 := hg.cell (a := ⟨w1.heap.size, 4, none⟩) (v := .int .i64 i) (by assumption) (by simp); have q5 := hg.cell (a := ⟨w1.heap.size, 5, none⟩) (v := .string ⟨b.toArray⟩) (by assumption) (by simp); have q6 := hg.cell (a := ⟨w4.heap.size, 0, none⟩) (v := .int .i64 S) (by assumption) (by simp); have q7 := hg.cell (a := ⟨w4.heap.size, 1, none⟩) (v := .int .i64 D) (by assumption) (by simp); have q8 := hg.cell (a := ⟨w4.heap.size, 2, none⟩) (v := .int .i64 T) (by assumption) (by simp); have q9 := hg.cell (a := ⟨w4.heap.size, 3, none⟩) (v := .int .i64 P) (by assumption) (by simp); have q10 := hg.cell (a := ⟨w4.heap.size, 4, none⟩) (v := .int .i64 I) (by assumption) (by simp); have q11 := hg.cell (a := ⟨w4.heap.size, 5, none⟩) (v := .string ⟨B.toArray⟩) (by assumption) (by simp); have q12 := hg.cell (a := ⟨w5.heap.size, 0, none⟩) (v := .int .i64 S) (by assumption) (by simp); have q13 := hg.cell (a := ⟨w5.heap.size, 1, none⟩) (v := .int .i64 D) (by assumption) (by simp); have q14 := hg.cell (a := ⟨w5.heap.size, 2, none⟩) (v := .int .i64 T) (by assumption) (by simp); have q15 := hg.cell (a := ⟨w5.heap.size, 3, none⟩) (v := .int .i64 P) (by assumption) (by simp); have q16 := hg.cell (a := ⟨w5.heap.size, 4, none⟩) (v := .int .i64 I) (by assumption) (by simp); have q17 := hg.cell (a := ⟨w5.heap.size, 5, none⟩) (v := .string ⟨B.toArray⟩) (by assumption) (by simp); have qg : w6.grownBy w9 none := by first | exact grownBy_trans grownBy_drew hg | exact grownBy_trans (by assumption) hg)
            | (go_at_call 10; refine (ip_impl _ _ _ _ _ _ _).mono ?_; rintro e w9 ⟨rfl, hg⟩; rw [HW.out.2]; have q0 := hg.cell (a := ⟨w1.heap.size, 0, none⟩) (v := .int .i64 s) (by assumption) (by simp); have q1 := hg.cell (a := ⟨w1.heap.size, 1, none⟩) (v := .int .i64 d) (by assumption) (by simp); have q2 := hg.cell (a := ⟨w1.heap.size, 2, none⟩) (v := .int .i64 t) (by assumption) (by simp); have q3 := hg.cell (a := ⟨w1.heap.size, 3, none⟩) (v := .int .i64 p) (by assumption) (by simp); have q4 := hg.cell (a := ⟨w1.heap.size, 4, none⟩) (v := .int .i64 i) (by assumption) (by simp); have q5 := hg.cell (a := ⟨w1.heap.size, 5, none⟩) (v := .string ⟨b.toArray⟩) (by assumption) (by simp); have q6 := hg.cell (a := ⟨w4.heap.size, 0, none⟩) (v := .int .i64 S) (by assumption) (by simp); have q7 := hg.cell (a := ⟨w4.heap.size, 1, none⟩) (v := .int .i64 D) (by assumption) (by simp); have q8 := hg.cell (a := ⟨w4.heap.size, 2, none⟩) (v := .int .i64 T) (by assumption) (by simp); have q9 := hg.cell (a := ⟨w4.heap.size, 3, none⟩) (v := .int .i64 P) (by assumption) (by simp); have q10 := hg.cell (a := ⟨w4.heap.size, 4, none⟩) (v := .int .i64 I) (by assumption) (by simp); have q11 := hg.cell (a := ⟨w4.heap.size, 5, none⟩) (v := .string ⟨B.toArray⟩) (by assumption) (by simp); have q12 := hg.cell (a := ⟨w5.heap.size, 0, none⟩) (v := .int .i64 S) (by assumption) (by simp); have q13 := hg.cell (a := ⟨w5.heap.size, 1, none⟩) (v := .int .i64 D) (by assumption) (by simp); have q14 := hg.cell (a := ⟨w5.heap.size, 2, none⟩) (v := .int .i64 T) (by assumption) (by simp); have q15 := hg.cell (a := ⟨w5.heap.size, 3, none⟩) (v := .int .i64 P) (by assumption) (by simp); have q16 := hg.cell (a := ⟨w5.heap.size, 4, none⟩) (v := .int .i64 I) (by assumption) (by simp); have q17 := hg.cell (a := ⟨w5.heap.size, 5, none⟩) (v := .string ⟨B.toArray⟩) (by assumption) (by simp); have qg : w6.grownBy w9 none := by first | exact grownBy_trans grownBy_drew hg | exact grownBy_trans (by assumption) hg))
        rename_i hH
        have hS := hH
        clear hH
        have HG := Lib.hid (H5.out.kept hS.2.2.2.2.2.2.2.2.2.2.2.2.2.2.2.2.2.2)
        clear hS
        obtain ⟨m0, m1, m2, m3, m4, m5⟩ := ip_facts HG.out
        go_wp2_with fail
        refine (ip_ok_impl _ _ _ _ _ _ _).mono ?_
        rintro e w10 ⟨rfl, hg⟩
        rw [HD.out]
        have HZ := Lib.hid (grownBy_trans HG.out.grown hg)
        clear hg
        go_wp2_with fail
        go_ret
        exact ⟨rfl, below_new HZ.out⟩

set_option maxRecDepth 100000 in
theorem lifted (os : Os) (started : os.Started) (H : Type) (enc : TypeId × Value → H) :
    ReturnsInHanded {} Try.checked os 3 .any (Rows.fnIpsSpec.pre6 enc Try.prog Try.f3 Rows.fnIpsRow.domain false) (Rows.fnIpsSpec.post enc Try.prog Try.f3 false true false false) := by
  refine returnsInHanded_of_change (C := Try.checked) own started (by kernel_rfl) Try.func3
    (ChangeSpec.witness6 (enc := enc) (C := Try.checked) false ⟨#[], #[.slice none 0 0], []⟩ 8 (by kernel_rfl) (by kernel_rfl) (by kernel_rfl) (by kernel_rfl)) ?_
  intro W base args ds gs before hval0 hW hcnd _
  have hval : ∀ (j : Nat) t v, Try.f3.params[j]? = some t → args[j]? = some v → Value.okWide Try.prog W .any base t v := hval0
  have hW' := hW
  obtain ⟨p, q, hA0, hV, rfl, hfz, hnd⟩ := hW
  have hA : DataW.TrodAll enc Try.prog W 0 (fun _ => true) true Try.f3.params.toList args.toList ds p := hA0
  rw [Try.params3] at hA hval
  obtain ⟨v0, vs0, d0, ds0, p0, q0, hargs, rfl, rfl, h0, r0⟩ := trodAll_cons hA
  obtain ⟨rfl, rfl, rfl⟩ := trodAll_nil r0
  obtain rfl : args = #[v0] := by cases args; simp_all
  obtain ⟨rfl, rfl⟩ := trodVars_none hV
  have k0 := h0
  have lt0 : ∀ x ∈ p0, x.block < W.heap.size := by obtain ⟨m, hm⟩ := k0; exact DataW.trod_lt m _ _ _ hm
  obtain ⟨a0, len0, cap0, rfl⟩ := okWide_slice Try.underlying22 (hval 0 22 v0 rfl rfl)
  obtain ⟨z0, w0⟩ : ∃ zs, IsRow .u8 W a0 len0 cap0 zs := by
    obtain ⟨fuel, hf⟩ := h0
    rcases open_ints Try.underlying22 Try.underlying5 (by kernel_rfl) hf with ⟨hcs, _⟩ | ⟨x, l, c, zs, hcs, _, hl, hm, hz, _, hcell, hwz⟩
    · simp [Value.cells] at hcs
      obtain ⟨rfl, rfl, rfl⟩ := hcs
      exact ⟨[], .inl ⟨rfl, rfl, rfl, rfl⟩⟩
    · simp [Value.cells] at hcs
      obtain ⟨rfl, rfl, rfl⟩ := hcs
      exact ⟨zs, .inr ⟨_, rfl, hl, hm, by simpa using hz, hcell, hwz⟩⟩
  clear hA0 hval0
  refine (walk a0 len0 cap0 z0 W w0).mono fun e W' ⟨he, bel⟩ => ?_
  subst he
  exact ⟨_, rfl, _, _, _, [], _, [], hW', trodAll_mk1 (shut_bool Try.underlying4 _), (trodAll_cons_mk (Below.trod laidOut (by kernel_rfl) (of_decide_eq_true (by kernel_rfl)) k0 bel lt0) trodAll_mk0), rfl, bel.frame _, fun h => by cases h⟩

theorem over : Rows.fnIpsRow.holds Try.pinned (OpenSpec.ofChange Rows.fnIpsSpec) :=
  OpenClaim.holds_of_wide 3 Try.f3 rfl rfl rfl rfl rfl rfl rfl ⟨rfl, rfl, rfl, rfl, rfl⟩ rfl rfl rfl rfl rfl (by kernel_rfl) Try.func3 (by kernel_rfl)
    (of_decide_eq_true (by kernel_rfl)) (by unfold Func.isWrapper; first | (rw [if_pos (by decide +kernel)]; kernel_rfl) | (rw [if_neg (by decide +kernel)]; exact ⟨rfl, rfl⟩))
    (fun os started H enc _ => lifted os started H enc)

theorem proved : Rows.FnIpsSaid := over
end Go.Proofs.Ytcbaenndkljlpaa.fnIps
