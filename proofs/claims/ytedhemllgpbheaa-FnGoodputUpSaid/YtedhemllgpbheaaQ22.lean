/- RnT -/
import Derived.Test.YtedhemllgpbheaaQ21
namespace Go.Proofs.Ytedhemllgpbheaa
open Go.RowKit

set_option maxRecDepth 100000 in
set_option maxHeartbeats 2000000 in
theorem rs_step1 (m w l p d o g n a f x : Int) (W : World) (hm : 1 ≤ m ∧ m ≤ 10000) (hw : m ≤ w ∧ w ≤ 1000000000) (hl : 1 ≤ l ∧ l ≤ 1000000000) (hn : 1 ≤ n ∧ n ≤ 1000000000) (hp : (p = 1 ∧ 0 ≤ g) ∨ (p = 2 ∧ 0 ≤ g ∧ g < w) ∨ p = 3) : Calls Try.prog 49 #[.agg #[.int .i64 m, .int .i64 w, .int .i64 l, .int .i64 p, .int .i64 d, .int .i64 o, .int .i64 g], .agg #[.int .i64 1, .int .i64 n, .int .i64 a, .int .i64 f, .int .i64 x]] W fun e w' => e = .returned (rnV (rnStep ⟨m, w, l, p, d, o, g⟩ ⟨1, n, a, f, x⟩)) ∧ W.grownBy w' none := by
  rcases hp with ⟨rfl, q1⟩ | ⟨rfl, q1⟩ | rfl
  · rw [show rnStep ⟨m, w, l, 1, d, o, g⟩ ⟨1, n, a, f, x⟩ = rnAck ⟨m, w, l, 1, d, o, g⟩ ⟨1, n, a, f, x⟩ from if_pos rfl]
    have hs := fun W => rs_ack1 m w l d o g n a f x W hm hw hn
    generalize rnAck ⟨m, w, l, 1, d, o, g⟩ ⟨1, n, a, f, x⟩ = R at hs ⊢
    obtain ⟨R0, R1, R2, R3, R4, R5, R6⟩ := R
    simp only [rnV] at hs ⊢
    have HS := Lib.hid hs
    clear hs
    go_enter Try.func49, Try.ntmps49
    go_wp2_with fail
    refine (HS.out _).mono ?_
    rintro e w9 ⟨rfl, hg⟩
    have z0 := hg.cell (a := ⟨W.heap.size + 1 + 1, 0, none⟩) (v := .int .i64 0) (by go_simp) (by simp)
    have z1 := hg.cell (a := ⟨W.heap.size + 1 + 1, 1, none⟩) (v := .int .i64 0) (by go_simp) (by simp)
    have z2 := hg.cell (a := ⟨W.heap.size + 1 + 1, 2, none⟩) (v := .int .i64 0) (by go_simp) (by simp)
    have z3 := hg.cell (a := ⟨W.heap.size + 1 + 1, 3, none⟩) (v := .int .i64 0) (by go_simp) (by simp)
    have z4 := hg.cell (a := ⟨W.heap.size + 1 + 1, 4, none⟩) (v := .int .i64 0) (by go_simp) (by simp)
    have z5 := hg.cell (a := ⟨W.heap.size + 1 + 1, 5, none⟩) (v := .int .i64 0) (by go_simp) (by simp)
    have z6 := hg.cell (a := ⟨W.heap.size + 1 + 1, 6, none⟩) (v := .int .i64 0) (by go_simp) (by simp)
    have y0 := grown_frz hg (p := ⟨W.heap.size + 1 + 1, 0, none⟩) (v := .int .i64 0) (by go_simp) (by simp) (x := false) (by go_simp)
    have y1 := grown_frz hg (p := ⟨W.heap.size + 1 + 1, 1, none⟩) (v := .int .i64 0) (by go_simp) (by simp) (x := false) (by go_simp)
    have y2 := grown_frz hg (p := ⟨W.heap.size + 1 + 1, 2, none⟩) (v := .int .i64 0) (by go_simp) (by simp) (x := false) (by go_simp)
    have y3 := grown_frz hg (p := ⟨W.heap.size + 1 + 1, 3, none⟩) (v := .int .i64 0) (by go_simp) (by simp) (x := false) (by go_simp)
    have y4 := grown_frz hg (p := ⟨W.heap.size + 1 + 1, 4, none⟩) (v := .int .i64 0) (by go_simp) (by simp) (x := false) (by go_simp)
    have y5 := grown_frz hg (p := ⟨W.heap.size + 1 + 1, 5, none⟩) (v := .int .i64 0) (by go_simp) (by simp) (x := false) (by go_simp)
    have y6 := grown_frz hg (p := ⟨W.heap.size + 1 + 1, 6, none⟩) (v := .int .i64 0) (by go_simp) (by simp) (x := false) (by go_simp)
    have HG9 := Lib.hid (show W.grownBy w9 none from grownBy_trans (by repeat (first | with_reducible refine gS ?_ (by first | omega | (simp; omega)) _ _ | with_reducible refine gA ?_ _ | with_reducible refine gD ?_ _ | with_reducible refine gd ?_ | with_reducible exact HG2.out | with_reducible exact HG.out | with_reducible exact World.grownBy.refl _ _)) hg)
    clear hg
    go_wp2_with fail
    exact bodyPost_ret (v := .agg #[.int .i64 R0, .int .i64 R1, .int .i64 R2, .int .i64 R3, .int .i64 R4, .int .i64 R5, .int .i64 R6]) (by simp [results, Try.results49, go_sem, z0, z1, z2, z3, z4, z5, z6]) rfl ⟨rfl, by repeat (first | with_reducible refine gS ?_ (by first | omega | (simp; omega)) _ _ | with_reducible exact HG9.out)⟩
  · rw [show rnStep ⟨m, w, l, 2, d, o, g⟩ ⟨1, n, a, f, x⟩ = rnAck ⟨m, w, l, 2, d, o, g⟩ ⟨1, n, a, f, x⟩ from if_pos rfl]
    have hs := fun W => rs_ack2 m w l d o g n a f x W hm hw hn q1
    generalize rnAck ⟨m, w, l, 2, d, o, g⟩ ⟨1, n, a, f, x⟩ = R at hs ⊢
    obtain ⟨R0, R1, R2, R3, R4, R5, R6⟩ := R
    simp only [rnV] at hs ⊢
    have HS := Lib.hid hs
    clear hs
    go_enter Try.func49, Try.ntmps49
    go_wp2_with fail
    refine (HS.out _).mono ?_
    rintro e w9 ⟨rfl, hg⟩
    have z0 := hg.cell (a := ⟨W.heap.size + 1 + 1, 0, none⟩) (v := .int .i64 0) (by go_simp) (by simp)
    have z1 := hg.cell (a := ⟨W.heap.size + 1 + 1, 1, none⟩) (v := .int .i64 0) (by go_simp) (by simp)
    have z2 := hg.cell (a := ⟨W.heap.size + 1 + 1, 2, none⟩) (v := .int .i64 0) (by go_simp) (by simp)
    have z3 := hg.cell (a := ⟨W.heap.size + 1 + 1, 3, none⟩) (v := .int .i64 0) (by go_simp) (by simp)
    have z4 := hg.cell (a := ⟨W.heap.size + 1 + 1, 4, none⟩) (v := .int .i64 0) (by go_simp) (by simp)
    have z5 := hg.cell (a := ⟨W.heap.size + 1 + 1, 5, none⟩) (v := .int .i64 0) (by go_simp) (by simp)
    have z6 := hg.cell (a := ⟨W.heap.size + 1 + 1, 6, none⟩) (v := .int .i64 0) (by go_simp) (by simp)
    have y0 := grown_frz hg (p := ⟨W.heap.size + 1 + 1, 0, none⟩) (v := .int .i64 0) (by go_simp) (by simp) (x := false) (by go_simp)
    have y1 := grown_frz hg (p := ⟨W.heap.size + 1 + 1, 1, none⟩) (v := .int .i64 0) (by go_simp) (by simp) (x := false) (by go_simp)
    have y2 := grown_frz hg (p := ⟨W.heap.size + 1 + 1, 2, none⟩) (v := .int .i64 0) (by go_simp) (by simp) (x := false) (by go_simp)
    have y3 := grown_frz hg (p := ⟨W.heap.size + 1 + 1, 3, none⟩) (v := .int .i64 0) (by go_simp) (by simp) (x := false) (by go_simp)
    have y4 := grown_frz hg (p := ⟨W.heap.size + 1 + 1, 4, none⟩) (v := .int .i64 0) (by go_simp) (by simp) (x := false) (by go_simp)
    have y5 := grown_frz hg (p := ⟨W.heap.size + 1 + 1, 5, none⟩) (v := .int .i64 0) (by go_simp) (by simp) (x := false) (by go_simp)
    have y6 := grown_frz hg (p := ⟨W.heap.size + 1 + 1, 6, none⟩) (v := .int .i64 0) (by go_simp) (by simp) (x := false) (by go_simp)
    have HG9 := Lib.hid (show W.grownBy w9 none from grownBy_trans (by repeat (first | with_reducible refine gS ?_ (by first | omega | (simp; omega)) _ _ | with_reducible refine gA ?_ _ | with_reducible refine gD ?_ _ | with_reducible refine gd ?_ | with_reducible exact HG2.out | with_reducible exact HG.out | with_reducible exact World.grownBy.refl _ _)) hg)
    clear hg
    go_wp2_with fail
    exact bodyPost_ret (v := .agg #[.int .i64 R0, .int .i64 R1, .int .i64 R2, .int .i64 R3, .int .i64 R4, .int .i64 R5, .int .i64 R6]) (by simp [results, Try.results49, go_sem, z0, z1, z2, z3, z4, z5, z6]) rfl ⟨rfl, by repeat (first | with_reducible refine gS ?_ (by first | omega | (simp; omega)) _ _ | with_reducible exact HG9.out)⟩
  · rw [show rnStep ⟨m, w, l, 3, d, o, g⟩ ⟨1, n, a, f, x⟩ = rnAck ⟨m, w, l, 3, d, o, g⟩ ⟨1, n, a, f, x⟩ from if_pos rfl]
    have hs := fun W => rs_ack3 m w l d o g n a f x W hm hw hn hl
    generalize rnAck ⟨m, w, l, 3, d, o, g⟩ ⟨1, n, a, f, x⟩ = R at hs ⊢
    obtain ⟨R0, R1, R2, R3, R4, R5, R6⟩ := R
    simp only [rnV] at hs ⊢
    have HS := Lib.hid hs
    clear hs
    go_enter Try.func49, Try.ntmps49
    go_wp2_with fail
    refine (HS.out _).mono ?_
    rintro e w9 ⟨rfl, hg⟩
    have z0 := hg.cell (a := ⟨W.heap.size + 1 + 1, 0, none⟩) (v := .int .i64 0) (by go_simp) (by simp)
    have z1 := hg.cell (a := ⟨W.heap.size + 1 + 1, 1, none⟩) (v := .int .i64 0) (by go_simp) (by simp)
    have z2 := hg.cell (a := ⟨W.heap.size + 1 + 1, 2, none⟩) (v := .int .i64 0) (by go_simp) (by simp)
    have z3 := hg.cell (a := ⟨W.heap.size + 1 + 1, 3, none⟩) (v := .int .i64 0) (by go_simp) (by simp)
    have z4 := hg.cell (a := ⟨W.heap.size + 1 + 1, 4, none⟩) (v := .int .i64 0) (by go_simp) (by simp)
    have z5 := hg.cell (a := ⟨W.heap.size + 1 + 1, 5, none⟩) (v := .int .i64 0) (by go_simp) (by simp)
    have z6 := hg.cell (a := ⟨W.heap.size + 1 + 1, 6, none⟩) (v := .int .i64 0) (by go_simp) (by simp)
    have y0 := grown_frz hg (p := ⟨W.heap.size + 1 + 1, 0, none⟩) (v := .int .i64 0) (by go_simp) (by simp) (x := false) (by go_simp)
    have y1 := grown_frz hg (p := ⟨W.heap.size + 1 + 1, 1, none⟩) (v := .int .i64 0) (by go_simp) (by simp) (x := false) (by go_simp)
    have y2 := grown_frz hg (p := ⟨W.heap.size + 1 + 1, 2, none⟩) (v := .int .i64 0) (by go_simp) (by simp) (x := false) (by go_simp)
    have y3 := grown_frz hg (p := ⟨W.heap.size + 1 + 1, 3, none⟩) (v := .int .i64 0) (by go_simp) (by simp) (x := false) (by go_simp)
    have y4 := grown_frz hg (p := ⟨W.heap.size + 1 + 1, 4, none⟩) (v := .int .i64 0) (by go_simp) (by simp) (x := false) (by go_simp)
    have y5 := grown_frz hg (p := ⟨W.heap.size + 1 + 1, 5, none⟩) (v := .int .i64 0) (by go_simp) (by simp) (x := false) (by go_simp)
    have y6 := grown_frz hg (p := ⟨W.heap.size + 1 + 1, 6, none⟩) (v := .int .i64 0) (by go_simp) (by simp) (x := false) (by go_simp)
    have HG9 := Lib.hid (show W.grownBy w9 none from grownBy_trans (by repeat (first | with_reducible refine gS ?_ (by first | omega | (simp; omega)) _ _ | with_reducible refine gA ?_ _ | with_reducible refine gD ?_ _ | with_reducible refine gd ?_ | with_reducible exact HG2.out | with_reducible exact HG.out | with_reducible exact World.grownBy.refl _ _)) hg)
    clear hg
    go_wp2_with fail
    exact bodyPost_ret (v := .agg #[.int .i64 R0, .int .i64 R1, .int .i64 R2, .int .i64 R3, .int .i64 R4, .int .i64 R5, .int .i64 R6]) (by simp [results, Try.results49, go_sem, z0, z1, z2, z3, z4, z5, z6]) rfl ⟨rfl, by repeat (first | with_reducible refine gS ?_ (by first | omega | (simp; omega)) _ _ | with_reducible exact HG9.out)⟩

set_option maxRecDepth 100000 in
set_option maxHeartbeats 2000000 in
theorem rs_step3 (m w l p d o g n a f x : Int) (W : World) (hm : 1 ≤ m ∧ m ≤ 10000) (hf : 0 ≤ f ∧ f ≤ 1000000000) : Calls Try.prog 49 #[.agg #[.int .i64 m, .int .i64 w, .int .i64 l, .int .i64 p, .int .i64 d, .int .i64 o, .int .i64 g], .agg #[.int .i64 3, .int .i64 n, .int .i64 a, .int .i64 f, .int .i64 x]] W fun e w' => e = .returned (rnV (rnStep ⟨m, w, l, p, d, o, g⟩ ⟨3, n, a, f, x⟩)) ∧ W.grownBy w' none := by
  rw [show rnStep ⟨m, w, l, p, d, o, g⟩ ⟨3, n, a, f, x⟩ = rnSet ⟨m, m, hlf f m, p, 0, x, 0⟩ from (if_neg (by first | decide | (dsimp only; decide))).trans (if_pos rfl)]
  have hh := fun W => rs_half m w l p d o g f W hm hf
  have hb : 0 ≤ hlf f m ∧ hlf f m ≤ 1000000000 := by unfold hlf; split <;> omega
  generalize hlf f m = H at hh hb ⊢
  have HH := Lib.hid hh
  clear hh
  have hs := fun W => rs_phase m m H p 0 x 0 W (by omega)
  generalize rnSet ⟨m, m, H, p, 0, x, 0⟩ = R at hs ⊢
  obtain ⟨R0, R1, R2, R3, R4, R5, R6⟩ := R
  simp only [rnV] at hs ⊢
  have HS := Lib.hid hs
  clear hs
  go_enter Try.func49, Try.ntmps49
  go_wp2_with fail
  refine (HH.out _).mono ?_
  rintro e w1 ⟨rfl, o1, rfl⟩
  go_wp2_with fail
  refine (HS.out _).mono ?_
  rintro e w9 ⟨rfl, hg⟩
  have z0 := hg.cell (a := ⟨W.heap.size + 1 + 1, 0, none⟩) (v := .int .i64 0) (by go_simp) (by simp)
  have z1 := hg.cell (a := ⟨W.heap.size + 1 + 1, 1, none⟩) (v := .int .i64 0) (by go_simp) (by simp)
  have z2 := hg.cell (a := ⟨W.heap.size + 1 + 1, 2, none⟩) (v := .int .i64 0) (by go_simp) (by simp)
  have z3 := hg.cell (a := ⟨W.heap.size + 1 + 1, 3, none⟩) (v := .int .i64 0) (by go_simp) (by simp)
  have z4 := hg.cell (a := ⟨W.heap.size + 1 + 1, 4, none⟩) (v := .int .i64 0) (by go_simp) (by simp)
  have z5 := hg.cell (a := ⟨W.heap.size + 1 + 1, 5, none⟩) (v := .int .i64 0) (by go_simp) (by simp)
  have z6 := hg.cell (a := ⟨W.heap.size + 1 + 1, 6, none⟩) (v := .int .i64 0) (by go_simp) (by simp)
  have y0 := grown_frz hg (p := ⟨W.heap.size + 1 + 1, 0, none⟩) (v := .int .i64 0) (by go_simp) (by simp) (x := false) (by go_simp)
  have y1 := grown_frz hg (p := ⟨W.heap.size + 1 + 1, 1, none⟩) (v := .int .i64 0) (by go_simp) (by simp) (x := false) (by go_simp)
  have y2 := grown_frz hg (p := ⟨W.heap.size + 1 + 1, 2, none⟩) (v := .int .i64 0) (by go_simp) (by simp) (x := false) (by go_simp)
  have y3 := grown_frz hg (p := ⟨W.heap.size + 1 + 1, 3, none⟩) (v := .int .i64 0) (by go_simp) (by simp) (x := false) (by go_simp)
  have y4 := grown_frz hg (p := ⟨W.heap.size + 1 + 1, 4, none⟩) (v := .int .i64 0) (by go_simp) (by simp) (x := false) (by go_simp)
  have y5 := grown_frz hg (p := ⟨W.heap.size + 1 + 1, 5, none⟩) (v := .int .i64 0) (by go_simp) (by simp) (x := false) (by go_simp)
  have y6 := grown_frz hg (p := ⟨W.heap.size + 1 + 1, 6, none⟩) (v := .int .i64 0) (by go_simp) (by simp) (x := false) (by go_simp)
  have HG9 := Lib.hid (show W.grownBy w9 none from grownBy_trans (by repeat (first | with_reducible refine gS ?_ (by first | omega | (simp; omega)) _ _ | with_reducible refine gA ?_ _ | with_reducible refine gD ?_ _ | with_reducible refine gd ?_ | with_reducible exact HG2.out | with_reducible exact HG.out | with_reducible exact World.grownBy.refl _ _)) hg)
  clear hg
  go_wp2_with fail
  exact bodyPost_ret (v := .agg #[.int .i64 R0, .int .i64 R1, .int .i64 R2, .int .i64 R3, .int .i64 R4, .int .i64 R5, .int .i64 R6]) (by simp [results, Try.results49, go_sem, z0, z1, z2, z3, z4, z5, z6]) rfl ⟨rfl, by repeat (first | with_reducible refine gS ?_ (by first | omega | (simp; omega)) _ _ | with_reducible exact HG9.out)⟩

set_option maxRecDepth 100000 in
set_option maxHeartbeats 2000000 in
theorem rs_step2 (m w l p d o g n a f x : Int) (W : World) (hm : 1 ≤ m ∧ m ≤ 10000) (hw : m ≤ w ∧ w ≤ 1000000000) (hf : 0 ≤ f ∧ f ≤ 1000000000) (hd : ¬ p = 3 → 0 ≤ d ∧ d ≤ 2) : Calls Try.prog 49 #[.agg #[.int .i64 m, .int .i64 w, .int .i64 l, .int .i64 p, .int .i64 d, .int .i64 o, .int .i64 g], .agg #[.int .i64 2, .int .i64 n, .int .i64 a, .int .i64 f, .int .i64 x]] W fun e w' => e = .returned (rnV (rnStep ⟨m, w, l, p, d, o, g⟩ ⟨2, n, a, f, x⟩)) ∧ W.grownBy w' none := by
  by_cases hp : p = 3
  · subst hp
    rw [show rnStep ⟨m, w, l, 3, d, o, g⟩ ⟨2, n, a, f, x⟩ = ⟨m, gro w m, l, 3, d, o, g⟩ from (if_neg (by first | decide | (dsimp only; decide))).trans ((if_neg (by first | decide | (dsimp only; decide))).trans (if_pos rfl))]
    simp only [rnV]
    have s1 : IntKind.i64.wrap (w + m) = w + m := wr (by omega)
    by_cases r1 : w + m < 1000000000
    · have rg : gro w m = w + m := if_pos r1
      rw [rg]
      have g1 : w + m < 1000000000 := by omega
      have g2 : w + m ≤ 1000000000 := by omega
      have g3 : ¬ 1000000000 < w + m := by omega
      have g4 : ¬ 1000000000 ≤ w + m := by omega
      go_enter Try.func49, Try.ntmps49
      go_wp2
      exact bodyPost_ret (v := .agg #[.int .i64 m, .int .i64 (w + m), .int .i64 l, .int .i64 3, .int .i64 d, .int .i64 o, .int .i64 g]) (by simp [results, Try.results49, go_sem]) rfl ⟨rfl, by repeat (first | with_reducible refine gS ?_ (by first | omega | (simp; omega)) _ _ | with_reducible refine gA ?_ _ | with_reducible refine gD ?_ _ | with_reducible refine gd ?_ | with_reducible exact World.grownBy.refl _ _)⟩
    · have rg : gro w m = 1000000000 := if_neg r1
      rw [rg]
      by_cases r2 : 1000000000 < w + m
      · have g1 : 1000000000 < w + m := by omega
        have g2 : 1000000000 ≤ w + m := by omega
        have g3 : ¬ w + m < 1000000000 := by omega
        have g4 : ¬ w + m ≤ 1000000000 := by omega
        go_enter Try.func49, Try.ntmps49
        go_wp2
        exact bodyPost_ret (v := .agg #[.int .i64 m, .int .i64 1000000000, .int .i64 l, .int .i64 3, .int .i64 d, .int .i64 o, .int .i64 g]) (by simp [results, Try.results49, go_sem]) rfl ⟨rfl, by repeat (first | with_reducible refine gS ?_ (by first | omega | (simp; omega)) _ _ | with_reducible refine gA ?_ _ | with_reducible refine gD ?_ _ | with_reducible refine gd ?_ | with_reducible exact World.grownBy.refl _ _)⟩
      · have r3 : w + m = 1000000000 := by omega
        rw [r3] at s1
        go_enter Try.func49, Try.ntmps49
        go_wp2
        exact bodyPost_ret (v := .agg #[.int .i64 m, .int .i64 1000000000, .int .i64 l, .int .i64 3, .int .i64 d, .int .i64 o, .int .i64 g]) (by simp [results, Try.results49, go_sem]) rfl ⟨rfl, by repeat (first | with_reducible refine gS ?_ (by first | omega | (simp; omega)) _ _ | with_reducible refine gA ?_ _ | with_reducible refine gD ?_ _ | with_reducible refine gd ?_ | with_reducible exact World.grownBy.refl _ _)⟩
  · rw [show rnStep ⟨m, w, l, p, d, o, g⟩ ⟨2, n, a, f, x⟩ = rnNo ⟨m, w, l, p, d, o, g⟩ ⟨2, n, a, f, x⟩ from (if_neg (by first | decide | (dsimp only; decide))).trans ((if_neg (by first | decide | (dsimp only; decide))).trans (if_neg hp))]
    have hd := hd hp
    by_cases q : d < 2
    · rw [show rnNo ⟨m, w, l, p, d, o, g⟩ ⟨2, n, a, f, x⟩ = ⟨m, w, l, p, d + 1, o, g⟩ from if_pos q]
      have s1 : IntKind.i64.wrap (d + 1) = d + 1 := wr (by omega)
      simp only [rnV]
      go_enter Try.func49, Try.ntmps49
      go_wp2
      exact bodyPost_ret (v := .agg #[.int .i64 m, .int .i64 w, .int .i64 l, .int .i64 p, .int .i64 (d + 1), .int .i64 o, .int .i64 g]) (by simp [results, Try.results49, go_sem]) rfl ⟨rfl, by repeat (first | with_reducible refine gS ?_ (by first | omega | (simp; omega)) _ _ | with_reducible refine gA ?_ _ | with_reducible refine gD ?_ _ | with_reducible refine gd ?_ | with_reducible exact World.grownBy.refl _ _)⟩
    · obtain rfl : d = 2 := by omega
      rw [show rnNo ⟨m, w, l, p, 2, o, g⟩ ⟨2, n, a, f, x⟩ = ⟨m, hlf f m + 3 * m, hlf f m, 3, 3, x, 0⟩ from if_neg (by first | decide | (dsimp only; decide))]
      have hh := fun W => rs_half m w l p 2 o g f W hm hf
      have hb : 0 ≤ hlf f m ∧ hlf f m ≤ 900000000 := by unfold hlf; split <;> omega
      generalize hlf f m = H at hh hb ⊢
      have HH := Lib.hid hh
      clear hh q
      have s1 : IntKind.i64.wrap (3 * m) = 3 * m := wr (by omega)
      obtain ⟨t, ht⟩ : ∃ t, t = H + 3 * m := ⟨_, rfl⟩
      have s2 : IntKind.i64.wrap (H + 3 * m) = t := by rw [ht]; exact wr (by omega)
      have t1 : t < 1000000000 := by omega
      rw [← ht]
      clear ht
      simp only [rnV]
      have j1 : t < 1000000000 := by omega
      have j2 : t ≤ 1000000000 := by omega
      have j3 : ¬ 1000000000 < t := by omega
      have j4 : ¬ 1000000000 ≤ t := by omega
      go_enter Try.func49, Try.ntmps49
      go_wp2_with fail
      refine (HH.out _).mono ?_
      rintro e w1 ⟨rfl, o1, rfl⟩
      go_wp2_with fail
      exact bodyPost_ret (v := .agg #[.int .i64 m, .int .i64 t, .int .i64 H, .int .i64 3, .int .i64 3, .int .i64 x, .int .i64 0]) (by simp [results, Try.results49, go_sem]) rfl ⟨rfl, by repeat (first | with_reducible refine gS ?_ (by first | omega | (simp; omega)) _ _ | with_reducible refine gA ?_ _ | with_reducible refine gD ?_ _ | with_reducible refine gd ?_ | with_reducible exact World.grownBy.refl _ _)⟩

theorem rs_stepL (m w l p d o g k n a f x : Int) (W : World) (H1 : rnOk ⟨m, w, l, p, d, o, g⟩ = true) (H2 : evOk ⟨k, n, a, f, x⟩ = true) : Calls Try.prog 49 #[.agg #[.int .i64 m, .int .i64 w, .int .i64 l, .int .i64 p, .int .i64 d, .int .i64 o, .int .i64 g], .agg #[.int .i64 k, .int .i64 n, .int .i64 a, .int .i64 f, .int .i64 x]] W fun e w' => e = .returned (rnV (rnStep ⟨m, w, l, p, d, o, g⟩ ⟨k, n, a, f, x⟩)) ∧ W.grownBy w' none := by
  obtain ⟨h1, h2, h3, h4, h5, h6, h7, h8, hp⟩ := rn_of H1
  obtain ⟨e1, e2, e3, e4, e5, e6, e7⟩ := ev_of H2
  dsimp only at h1 h2 h3 h4 h5 h6 h7 h8 hp e1 e2 e3 e4 e5 e6 e7
  rcases e1 with ⟨rfl, y1, y2⟩ | ⟨rfl | rfl, rfl⟩
  · exact rs_step1 m w l p d o g n a f x W ⟨h1, h2⟩ ⟨h3, h4⟩ (by omega) ⟨y1, y2⟩ (by omega)
  · exact rs_step2 m w l p d o g 0 a f x W ⟨h1, h2⟩ ⟨h3, h4⟩ ⟨e2, e3⟩ (by omega)
  · exact rs_step3 m w l p d o g 0 a f x W ⟨h1, h2⟩ ⟨e2, e3⟩

def nwB (m y : Int) : Bool := inB m 1 10000 && inB y 1 10
def nwV (m y : Int) : Value := .tuple #[rnV (if (inB m 1 10000 && inB y 1 10) = true then ⟨m, y * m, 1000000000, 1, 0, 0, 0⟩ else rnZ), .bool (nwB m y)]

set_option maxRecDepth 100000 in
set_option maxHeartbeats 2000000 in
theorem rn_newS (m y : Int) (W : World)  : Calls Try.prog 28 #[.int .i64 m, .int .i64 y] W fun e w' => e = .returned (nwV m y) ∧ W.grownBy w' none := by
  unfold nwV nwB
  cases g1 : inB m 1 10000
  · simp only [Bool.false_and, Bool.false_eq_true, if_false, rnV, rnZ]
    go_enter Try.func28, Try.ntmps28
    go_wp2_with (go_at_call 21; refine (in_any _ _ _ _).mono ?_; rintro e w' ⟨rfl, rfl⟩)
    exact bodyPost_ret (v := .tuple #[.agg #[.int .i64 0, .int .i64 0, .int .i64 0, .int .i64 0, .int .i64 0, .int .i64 0, .int .i64 0], .bool false]) (by simp [results, Try.results28, go_sem]) rfl ⟨rfl, by repeat (first | with_reducible refine gS ?_ (by first | omega | (simp; omega)) _ _ | with_reducible refine gA ?_ _ | with_reducible refine gD ?_ _ | with_reducible refine gd ?_ | with_reducible exact World.grownBy.refl _ _)⟩
  · cases g2 : inB y 1 10
    · simp only [Bool.and_false, Bool.false_eq_true, if_false, rnV, rnZ]
      go_enter Try.func28, Try.ntmps28
      go_wp2_with (go_at_call 21; refine (in_any _ _ _ _).mono ?_; rintro e w' ⟨rfl, rfl⟩)
      exact bodyPost_ret (v := .tuple #[.agg #[.int .i64 0, .int .i64 0, .int .i64 0, .int .i64 0, .int .i64 0, .int .i64 0, .int .i64 0], .bool false]) (by simp [results, Try.results28, go_sem]) rfl ⟨rfl, by repeat (first | with_reducible refine gS ?_ (by first | omega | (simp; omega)) _ _ | with_reducible refine gA ?_ _ | with_reducible refine gD ?_ _ | with_reducible refine gd ?_ | with_reducible exact World.grownBy.refl _ _)⟩
    · have q1 := in_of g2
      have k1 := in_of g1
      have hp : -4000000000000000 ≤ y * m ∧ y * m ≤ 4000000000000000 := by
        have z1 : 0 ≤ y * m := Int.mul_nonneg (by omega) (by omega)
        have z2 : y * m ≤ 10 * 10000 := Int.mul_le_mul (by omega) (by omega) (by omega) (by omega)
        omega
      have s1 : IntKind.i64.wrap (y * m) = y * m := wr hp
      clear hp
      simp only [Bool.and_self, if_true, rnV]
      go_enter Try.func28, Try.ntmps28
      go_wp2_with (go_at_call 21; refine (in_any _ _ _ _).mono ?_; rintro e w' ⟨rfl, rfl⟩)
      exact bodyPost_ret (v := .tuple #[.agg #[.int .i64 m, .int .i64 (y * m), .int .i64 1000000000, .int .i64 1, .int .i64 0, .int .i64 0, .int .i64 0], .bool true]) (by simp [results, Try.results28, go_sem]) rfl ⟨rfl, by repeat (first | with_reducible refine gS ?_ (by first | omega | (simp; omega)) _ _ | with_reducible refine gA ?_ _ | with_reducible refine gD ?_ _ | with_reducible refine gd ?_ | with_reducible exact World.grownBy.refl _ _)⟩

end Go.Proofs.Ytedhemllgpbheaa

