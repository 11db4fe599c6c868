/- RnS -/
import Derived.Test.YtedhemllgpbheaaQ6
import Derived.Test.YtedhemllgpbheaaQ10
import Derived.Deep.RegionWith
import Derived.BigRegion
import Derived.Laws.EntriesVeiled
import Derived.StillTailTactics
namespace Go.Proofs.Ytedhemllgpbheaa
open Go.RowKit

set_option maxRecDepth 100000 in
set_option maxHeartbeats 2000000 in
theorem rs_half (m w l p d o g f : Int) (W : World) (hm : 1 ≤ m ∧ m ≤ 10000) (hf : 0 ≤ f ∧ f ≤ 1000000000) : Calls Try.prog 55 #[.agg #[.int .i64 m, .int .i64 w, .int .i64 l, .int .i64 p, .int .i64 d, .int .i64 o, .int .i64 g], .int .i64 f] W fun e w' => e = .returned (.int .i64 (hlf f m)) ∧ ∃ o1, w' = W.alloc o1 := by
  have h1 : IntKind.i64.wrap (f.tdiv 2) = f / 2 := half_i f hf
  have h2 : IntKind.i64.wrap (2 * m) = 2 * m := wr (by omega)
  obtain ⟨y, hy⟩ : ∃ y, y = f / 2 := ⟨_, rfl⟩
  obtain ⟨z, hz⟩ : ∃ z, z = 2 * m := ⟨_, rfl⟩
  unfold hlf
  rw [← hy] at h1 ⊢
  rw [← hz] at h2 ⊢
  have h3 : IntKind.i64.wrap (2 * m) = z := by rw [hz]; exact wr (by omega)
  clear hy h2 hz
  by_cases q1 : y < z
  · rw [if_pos q1]
    have c1 : y < z := by omega
    have c2 : y ≤ z := by omega
    have c3 : ¬ z < y := by omega
    have c4 : ¬ z ≤ y := by omega
    go_enter Try.func55, Try.ntmps55
    go_wp2
    go_ret
    exact ⟨rfl, _, rfl⟩
  · rw [if_neg q1]
    by_cases q2 : z < y
    · have c1 : z < y := by omega
      have c2 : z ≤ y := by omega
      have c3 : ¬ y < z := by omega
      have c4 : ¬ y ≤ z := by omega
      go_enter Try.func55, Try.ntmps55
      go_wp2
      go_ret
      exact ⟨rfl, _, rfl⟩
    · obtain rfl : y = z := by omega
      go_enter Try.func55, Try.ntmps55
      go_wp2
      go_ret
      exact ⟨rfl, _, rfl⟩

set_option maxRecDepth 100000 in
set_option maxHeartbeats 2000000 in
theorem rs_phase (m w l p d o g : Int) (W : World) (hw : 1 ≤ w ∧ w ≤ 1000000000) : Calls Try.prog 56 #[.agg #[.int .i64 m, .int .i64 w, .int .i64 l, .int .i64 p, .int .i64 d, .int .i64 o, .int .i64 g]] W fun e w' => e = .returned (rnV (rnSet ⟨m, w, l, p, d, o, g⟩)) ∧ W.grownBy w' none := by
  unfold rnSet rnV
  by_cases q : w < l
  · simp only [q, if_true]
    have q2 : ¬ l ≤ w := by omega
    go_enter Try.func56, Try.ntmps56
    go_wp2
    exact bodyPost_ret (v := .agg #[.int .i64 m, .int .i64 w, .int .i64 l, .int .i64 1, .int .i64 d, .int .i64 o, .int .i64 0]) (by simp [results, Try.results56, go_sem]) rfl ⟨rfl, by repeat (first | with_reducible refine gS ?_ (by first | omega | (simp; omega)) _ _ | with_reducible refine gA ?_ _ | with_reducible refine gD ?_ _ | with_reducible refine gd ?_ | with_reducible exact World.grownBy.refl _ _)⟩
  · simp only [q, if_false]
    have q0 : l ≤ w := by omega
    obtain ⟨x, hx⟩ : ∃ x, x = w - 1 := ⟨_, rfl⟩
    have h1 : IntKind.i64.wrap (w - 1) = x := by rw [hx]; exact wr (by omega)
    rw [← hx]
    clear hx
    by_cases q1 : g < x
    · rw [if_pos q1]
      have c1 : g < x := by omega
      have c2 : g ≤ x := by omega
      have c3 : ¬ x < g := by omega
      have c4 : ¬ x ≤ g := by omega
      go_enter Try.func56, Try.ntmps56
      go_wp2
      exact bodyPost_ret (v := .agg #[.int .i64 m, .int .i64 w, .int .i64 l, .int .i64 2, .int .i64 d, .int .i64 o, .int .i64 g]) (by simp [results, Try.results56, go_sem]) rfl ⟨rfl, by repeat (first | with_reducible refine gS ?_ (by first | omega | (simp; omega)) _ _ | with_reducible refine gA ?_ _ | with_reducible refine gD ?_ _ | with_reducible refine gd ?_ | with_reducible exact World.grownBy.refl _ _)⟩
    · rw [if_neg q1]
      by_cases q2 : x < g
      · have c1 : x < g := by omega
        have c2 : x ≤ g := by omega
        have c3 : ¬ g < x := by omega
        have c4 : ¬ g ≤ x := by omega
        go_enter Try.func56, Try.ntmps56
        go_wp2
        exact bodyPost_ret (v := .agg #[.int .i64 m, .int .i64 w, .int .i64 l, .int .i64 2, .int .i64 d, .int .i64 o, .int .i64 x]) (by simp [results, Try.results56, go_sem]) rfl ⟨rfl, by repeat (first | with_reducible refine gS ?_ (by first | omega | (simp; omega)) _ _ | with_reducible refine gA ?_ _ | with_reducible refine gD ?_ _ | with_reducible refine gd ?_ | with_reducible exact World.grownBy.refl _ _)⟩
      · obtain rfl : x = g := by omega
        go_enter Try.func56, Try.ntmps56
        go_wp2
        exact bodyPost_ret (v := .agg #[.int .i64 m, .int .i64 w, .int .i64 l, .int .i64 2, .int .i64 d, .int .i64 o, .int .i64 x]) (by simp [results, Try.results56, go_sem]) rfl ⟨rfl, by repeat (first | with_reducible refine gS ?_ (by first | omega | (simp; omega)) _ _ | with_reducible refine gA ?_ _ | with_reducible refine gD ?_ _ | with_reducible refine gd ?_ | with_reducible exact World.grownBy.refl _ _)⟩

set_option maxRecDepth 100000 in
set_option maxHeartbeats 2000000 in
theorem rs_ack1 (m w l d o g n a f x : Int) (W : World) (hm : 1 ≤ m ∧ m ≤ 10000) (hw : m ≤ w ∧ w ≤ 1000000000) (hn : 1 ≤ n ∧ n ≤ 1000000000) : Calls Try.prog 54 #[.agg #[.int .i64 m, .int .i64 w, .int .i64 l, .int .i64 1, .int .i64 d, .int .i64 o, .int .i64 g], .agg #[.int .i64 1, .int .i64 n, .int .i64 a, .int .i64 f, .int .i64 x]] W fun e w' => e = .returned (rnV (rnAck ⟨m, w, l, 1, d, o, g⟩ ⟨1, n, a, f, x⟩)) ∧ W.grownBy w' none := by
  have hk := hn
  by_cases q : n < m
  · rw [show rnAck ⟨m, w, l, 1, d, o, g⟩ ⟨1, n, a, f, x⟩ = rnSet ⟨m, gro w n, l, 1, 0, o, g⟩ from by rw [show rnAck ⟨m, w, l, 1, d, o, g⟩ ⟨1, n, a, f, x⟩ = rnSet ⟨m, gro w (mn n m), l, 1, 0, o, g⟩ from if_pos rfl]; unfold mn; rw [if_pos q]]
    have c1 : n < m := by omega
    have c2 : n ≤ m := by omega
    have c3 : ¬ m < n := by omega
    have c4 : ¬ m ≤ n := by omega
    have s1 : IntKind.i64.wrap (w + n) = w + n := wr (by omega)
    by_cases r1 : w + n < 1000000000
    · have rg : gro w n = w + n := if_pos r1
      rw [rg]
      have g1 : w + n < 1000000000 := by omega
      have g2 : w + n ≤ 1000000000 := by omega
      have g3 : ¬ 1000000000 < w + n := by omega
      have g4 : ¬ 1000000000 ≤ w + n := by omega
      have hs := fun W => rs_phase m (w + n) l 1 0 o g W (by omega)
      generalize rnSet ⟨m, (w + n), l, 1, 0, o, g⟩ = R at hs ⊢
      obtain ⟨R0, R1, R2, R3, R4, R5, R6⟩ := R
      simp only [rnV] at hs ⊢
      have HS := Lib.hid hs
      clear hs
      go_enter Try.func54, Try.ntmps54
      go_wp2_with fail
      refine (HS.out _).mono ?_
      rintro e w9 ⟨rfl, hg⟩
      have z0 := hg.cell (a := ⟨W.heap.size + 1 + 1, 0, none⟩) (v := .int .i64 0) (by go_simp) (by simp)
      have z1 := hg.cell (a := ⟨W.heap.size + 1 + 1, 1, none⟩) (v := .int .i64 0) (by go_simp) (by simp)
      have z2 := hg.cell (a := ⟨W.heap.size + 1 + 1, 2, none⟩) (v := .int .i64 0) (by go_simp) (by simp)
      have z3 := hg.cell (a := ⟨W.heap.size + 1 + 1, 3, none⟩) (v := .int .i64 0) (by go_simp) (by simp)
      have z4 := hg.cell (a := ⟨W.heap.size + 1 + 1, 4, none⟩) (v := .int .i64 0) (by go_simp) (by simp)
      have z5 := hg.cell (a := ⟨W.heap.size + 1 + 1, 5, none⟩) (v := .int .i64 0) (by go_simp) (by simp)
      have z6 := hg.cell (a := ⟨W.heap.size + 1 + 1, 6, none⟩) (v := .int .i64 0) (by go_simp) (by simp)
      have y0 := grown_frz hg (p := ⟨W.heap.size + 1 + 1, 0, none⟩) (v := .int .i64 0) (by go_simp) (by simp) (x := false) (by go_simp)
      have y1 := grown_frz hg (p := ⟨W.heap.size + 1 + 1, 1, none⟩) (v := .int .i64 0) (by go_simp) (by simp) (x := false) (by go_simp)
      have y2 := grown_frz hg (p := ⟨W.heap.size + 1 + 1, 2, none⟩) (v := .int .i64 0) (by go_simp) (by simp) (x := false) (by go_simp)
      have y3 := grown_frz hg (p := ⟨W.heap.size + 1 + 1, 3, none⟩) (v := .int .i64 0) (by go_simp) (by simp) (x := false) (by go_simp)
      have y4 := grown_frz hg (p := ⟨W.heap.size + 1 + 1, 4, none⟩) (v := .int .i64 0) (by go_simp) (by simp) (x := false) (by go_simp)
      have y5 := grown_frz hg (p := ⟨W.heap.size + 1 + 1, 5, none⟩) (v := .int .i64 0) (by go_simp) (by simp) (x := false) (by go_simp)
      have y6 := grown_frz hg (p := ⟨W.heap.size + 1 + 1, 6, none⟩) (v := .int .i64 0) (by go_simp) (by simp) (x := false) (by go_simp)
      have HG9 := Lib.hid (show W.grownBy w9 none from grownBy_trans (by repeat (first | with_reducible refine gS ?_ (by first | omega | (simp; omega)) _ _ | with_reducible refine gA ?_ _ | with_reducible refine gD ?_ _ | with_reducible refine gd ?_ | with_reducible exact HG2.out | with_reducible exact HG.out | with_reducible exact World.grownBy.refl _ _)) hg)
      clear hg
      go_wp2_with fail
      exact bodyPost_ret (v := .agg #[.int .i64 R0, .int .i64 R1, .int .i64 R2, .int .i64 R3, .int .i64 R4, .int .i64 R5, .int .i64 R6]) (by simp [results, Try.results54, go_sem, z0, z1, z2, z3, z4, z5, z6]) rfl ⟨rfl, by repeat (first | with_reducible refine gS ?_ (by first | omega | (simp; omega)) _ _ | with_reducible exact HG9.out)⟩
    · have rg : gro w n = 1000000000 := if_neg r1
      rw [rg]
      by_cases r2 : 1000000000 < w + n
      · have g1 : 1000000000 < w + n := by omega
        have g2 : 1000000000 ≤ w + n := by omega
        have g3 : ¬ w + n < 1000000000 := by omega
        have g4 : ¬ w + n ≤ 1000000000 := by omega
        have hs := fun W => rs_phase m 1000000000 l 1 0 o g W (by omega)
        generalize rnSet ⟨m, 1000000000, l, 1, 0, o, g⟩ = R at hs ⊢
        obtain ⟨R0, R1, R2, R3, R4, R5, R6⟩ := R
        simp only [rnV] at hs ⊢
        have HS := Lib.hid hs
        clear hs
        go_enter Try.func54, Try.ntmps54
        go_wp2_with fail
        refine (HS.out _).mono ?_
        rintro e w9 ⟨rfl, hg⟩
        have z0 := hg.cell (a := ⟨W.heap.size + 1 + 1, 0, none⟩) (v := .int .i64 0) (by go_simp) (by simp)
        have z1 := hg.cell (a := ⟨W.heap.size + 1 + 1, 1, none⟩) (v := .int .i64 0) (by go_simp) (by simp)
        have z2 := hg.cell (a := ⟨W.heap.size + 1 + 1, 2, none⟩) (v := .int .i64 0) (by go_simp) (by simp)
        have z3 := hg.cell (a := ⟨W.heap.size + 1 + 1, 3, none⟩) (v := .int .i64 0) (by go_simp) (by simp)
        have z4 := hg.cell (a := ⟨W.heap.size + 1 + 1, 4, none⟩) (v := .int .i64 0) (by go_simp) (by simp)
        have z5 := hg.cell (a := ⟨W.heap.size + 1 + 1, 5, none⟩) (v := .int .i64 0) (by go_simp) (by simp)
        have z6 := hg.cell (a := ⟨W.heap.size + 1 + 1, 6, none⟩) (v := .int .i64 0) (by go_simp) (by simp)
        have y0 := grown_frz hg (p := ⟨W.heap.size + 1 + 1, 0, none⟩) (v := .int .i64 0) (by go_simp) (by simp) (x := false) (by go_simp)
        have y1 := grown_frz hg (p := ⟨W.heap.size + 1 + 1, 1, none⟩) (v := .int .i64 0) (by go_simp) (by simp) (x := false) (by go_simp)
        have y2 := grown_frz hg (p := ⟨W.heap.size + 1 + 1, 2, none⟩) (v := .int .i64 0) (by go_simp) (by simp) (x := false) (by go_simp)
        have y3 := grown_frz hg (p := ⟨W.heap.size + 1 + 1, 3, none⟩) (v := .int .i64 0) (by go_simp) (by simp) (x := false) (by go_simp)
        have y4 := grown_frz hg (p := ⟨W.heap.size + 1 + 1, 4, none⟩) (v := .int .i64 0) (by go_simp) (by simp) (x := false) (by go_simp)
        have y5 := grown_frz hg (p := ⟨W.heap.size + 1 + 1, 5, none⟩) (v := .int .i64 0) (by go_simp) (by simp) (x := false) (by go_simp)
        have y6 := grown_frz hg (p := ⟨W.heap.size + 1 + 1, 6, none⟩) (v := .int .i64 0) (by go_simp) (by simp) (x := false) (by go_simp)
        have HG9 := Lib.hid (show W.grownBy w9 none from grownBy_trans (by repeat (first | with_reducible refine gS ?_ (by first | omega | (simp; omega)) _ _ | with_reducible refine gA ?_ _ | with_reducible refine gD ?_ _ | with_reducible refine gd ?_ | with_reducible exact HG2.out | with_reducible exact HG.out | with_reducible exact World.grownBy.refl _ _)) hg)
        clear hg
        go_wp2_with fail
        exact bodyPost_ret (v := .agg #[.int .i64 R0, .int .i64 R1, .int .i64 R2, .int .i64 R3, .int .i64 R4, .int .i64 R5, .int .i64 R6]) (by simp [results, Try.results54, go_sem, z0, z1, z2, z3, z4, z5, z6]) rfl ⟨rfl, by repeat (first | with_reducible refine gS ?_ (by first | omega | (simp; omega)) _ _ | with_reducible exact HG9.out)⟩
      · have r3 : w + n = 1000000000 := by omega
        rw [r3] at s1
        have hs := fun W => rs_phase m 1000000000 l 1 0 o g W (by omega)
        generalize rnSet ⟨m, 1000000000, l, 1, 0, o, g⟩ = R at hs ⊢
        obtain ⟨R0, R1, R2, R3, R4, R5, R6⟩ := R
        simp only [rnV] at hs ⊢
        have HS := Lib.hid hs
        clear hs
        go_enter Try.func54, Try.ntmps54
        go_wp2_with fail
        refine (HS.out _).mono ?_
        rintro e w9 ⟨rfl, hg⟩
        have z0 := hg.cell (a := ⟨W.heap.size + 1 + 1, 0, none⟩) (v := .int .i64 0) (by go_simp) (by simp)
        have z1 := hg.cell (a := ⟨W.heap.size + 1 + 1, 1, none⟩) (v := .int .i64 0) (by go_simp) (by simp)
        have z2 := hg.cell (a := ⟨W.heap.size + 1 + 1, 2, none⟩) (v := .int .i64 0) (by go_simp) (by simp)
        have z3 := hg.cell (a := ⟨W.heap.size + 1 + 1, 3, none⟩) (v := .int .i64 0) (by go_simp) (by simp)
        have z4 := hg.cell (a := ⟨W.heap.size + 1 + 1, 4, none⟩) (v := .int .i64 0) (by go_simp) (by simp)
        have z5 := hg.cell (a := ⟨W.heap.size + 1 + 1, 5, none⟩) (v := .int .i64 0) (by go_simp) (by simp)
        have z6 := hg.cell (a := ⟨W.heap.size + 1 + 1, 6, none⟩) (v := .int .i64 0) (by go_simp) (by simp)
        have y0 := grown_frz hg (p := ⟨W.heap.size + 1 + 1, 0, none⟩) (v := .int .i64 0) (by go_simp) (by simp) (x := false) (by go_simp)
        have y1 := grown_frz hg (p := ⟨W.heap.size + 1 + 1, 1, none⟩) (v := .int .i64 0) (by go_simp) (by simp) (x := false) (by go_simp)
        have y2 := grown_frz hg (p := ⟨W.heap.size + 1 + 1, 2, none⟩) (v := .int .i64 0) (by go_simp) (by simp) (x := false) (by go_simp)
        have y3 := grown_frz hg (p := ⟨W.heap.size + 1 + 1, 3, none⟩) (v := .int .i64 0) (by go_simp) (by simp) (x := false) (by go_simp)
        have y4 := grown_frz hg (p := ⟨W.heap.size + 1 + 1, 4, none⟩) (v := .int .i64 0) (by go_simp) (by simp) (x := false) (by go_simp)
        have y5 := grown_frz hg (p := ⟨W.heap.size + 1 + 1, 5, none⟩) (v := .int .i64 0) (by go_simp) (by simp) (x := false) (by go_simp)
        have y6 := grown_frz hg (p := ⟨W.heap.size + 1 + 1, 6, none⟩) (v := .int .i64 0) (by go_simp) (by simp) (x := false) (by go_simp)
        have HG9 := Lib.hid (show W.grownBy w9 none from grownBy_trans (by repeat (first | with_reducible refine gS ?_ (by first | omega | (simp; omega)) _ _ | with_reducible refine gA ?_ _ | with_reducible refine gD ?_ _ | with_reducible refine gd ?_ | with_reducible exact HG2.out | with_reducible exact HG.out | with_reducible exact World.grownBy.refl _ _)) hg)
        clear hg
        go_wp2_with fail
        exact bodyPost_ret (v := .agg #[.int .i64 R0, .int .i64 R1, .int .i64 R2, .int .i64 R3, .int .i64 R4, .int .i64 R5, .int .i64 R6]) (by simp [results, Try.results54, go_sem, z0, z1, z2, z3, z4, z5, z6]) rfl ⟨rfl, by repeat (first | with_reducible refine gS ?_ (by first | omega | (simp; omega)) _ _ | with_reducible exact HG9.out)⟩
  · rw [show rnAck ⟨m, w, l, 1, d, o, g⟩ ⟨1, n, a, f, x⟩ = rnSet ⟨m, gro w m, l, 1, 0, o, g⟩ from by rw [show rnAck ⟨m, w, l, 1, d, o, g⟩ ⟨1, n, a, f, x⟩ = rnSet ⟨m, gro w (mn n m), l, 1, 0, o, g⟩ from if_pos rfl]; unfold mn; rw [if_neg q]]
    by_cases q2 : m < n
    · have c1 : m < n := by omega
      have c2 : m ≤ n := by omega
      have c3 : ¬ n < m := by omega
      have c4 : ¬ n ≤ m := by omega
      have s1 : IntKind.i64.wrap (w + m) = w + m := wr (by omega)
      by_cases r1 : w + m < 1000000000
      · have rg : gro w m = w + m := if_pos r1
        rw [rg]
        have g1 : w + m < 1000000000 := by omega
        have g2 : w + m ≤ 1000000000 := by omega
        have g3 : ¬ 1000000000 < w + m := by omega
        have g4 : ¬ 1000000000 ≤ w + m := by omega
        have hs := fun W => rs_phase m (w + m) l 1 0 o g W (by omega)
        generalize rnSet ⟨m, (w + m), l, 1, 0, o, g⟩ = R at hs ⊢
        obtain ⟨R0, R1, R2, R3, R4, R5, R6⟩ := R
        simp only [rnV] at hs ⊢
        have HS := Lib.hid hs
        clear hs
        go_enter Try.func54, Try.ntmps54
        go_wp2_with fail
        refine (HS.out _).mono ?_
        rintro e w9 ⟨rfl, hg⟩
        have z0 := hg.cell (a := ⟨W.heap.size + 1 + 1, 0, none⟩) (v := .int .i64 0) (by go_simp) (by simp)
        have z1 := hg.cell (a := ⟨W.heap.size + 1 + 1, 1, none⟩) (v := .int .i64 0) (by go_simp) (by simp)
        have z2 := hg.cell (a := ⟨W.heap.size + 1 + 1, 2, none⟩) (v := .int .i64 0) (by go_simp) (by simp)
        have z3 := hg.cell (a := ⟨W.heap.size + 1 + 1, 3, none⟩) (v := .int .i64 0) (by go_simp) (by simp)
        have z4 := hg.cell (a := ⟨W.heap.size + 1 + 1, 4, none⟩) (v := .int .i64 0) (by go_simp) (by simp)
        have z5 := hg.cell (a := ⟨W.heap.size + 1 + 1, 5, none⟩) (v := .int .i64 0) (by go_simp) (by simp)
        have z6 := hg.cell (a := ⟨W.heap.size + 1 + 1, 6, none⟩) (v := .int .i64 0) (by go_simp) (by simp)
        have y0 := grown_frz hg (p := ⟨W.heap.size + 1 + 1, 0, none⟩) (v := .int .i64 0) (by go_simp) (by simp) (x := false) (by go_simp)
        have y1 := grown_frz hg (p := ⟨W.heap.size + 1 + 1, 1, none⟩) (v := .int .i64 0) (by go_simp) (by simp) (x := false) (by go_simp)
        have y2 := grown_frz hg (p := ⟨W.heap.size + 1 + 1, 2, none⟩) (v := .int .i64 0) (by go_simp) (by simp) (x := false) (by go_simp)
        have y3 := grown_frz hg (p := ⟨W.heap.size + 1 + 1, 3, none⟩) (v := .int .i64 0) (by go_simp) (by simp) (x := false) (by go_simp)
        have y4 := grown_frz hg (p := ⟨W.heap.size + 1 + 1, 4, none⟩) (v := .int .i64 0) (by go_simp) (by simp) (x := false) (by go_simp)
        have y5 := grown_frz hg (p := ⟨W.heap.size + 1 + 1, 5, none⟩) (v := .int .i64 0) (by go_simp) (by simp) (x := false) (by go_simp)
        have y6 := grown_frz hg (p := ⟨W.heap.size + 1 + 1, 6, none⟩) (v := .int .i64 0) (by go_simp) (by simp) (x := false) (by go_simp)
        have HG9 := Lib.hid (show W.grownBy w9 none from grownBy_trans (by repeat (first | with_reducible refine gS ?_ (by first | omega | (simp; omega)) _ _ | with_reducible refine gA ?_ _ | with_reducible refine gD ?_ _ | with_reducible refine gd ?_ | with_reducible exact HG2.out | with_reducible exact HG.out | with_reducible exact World.grownBy.refl _ _)) hg)
        clear hg
        go_wp2_with fail
        exact bodyPost_ret (v := .agg #[.int .i64 R0, .int .i64 R1, .int .i64 R2, .int .i64 R3, .int .i64 R4, .int .i64 R5, .int .i64 R6]) (by simp [results, Try.results54, go_sem, z0, z1, z2, z3, z4, z5, z6]) rfl ⟨rfl, by repeat (first | with_reducible refine gS ?_ (by first | omega | (simp; omega)) _ _ | with_reducible exact HG9.out)⟩
      · have rg : gro w m = 1000000000 := if_neg r1
        rw [rg]
        by_cases r2 : 1000000000 < w + m
        · have g1 : 1000000000 < w + m := by omega
          have g2 : 1000000000 ≤ w + m := by omega
          have g3 : ¬ w + m < 1000000000 := by omega
          have g4 : ¬ w + m ≤ 1000000000 := by omega
          have hs := fun W => rs_phase m 1000000000 l 1 0 o g W (by omega)
          generalize rnSet ⟨m, 1000000000, l, 1, 0, o, g⟩ = R at hs ⊢
          obtain ⟨R0, R1, R2, R3, R4, R5, R6⟩ := R
          simp only [rnV] at hs ⊢
          have HS := Lib.hid hs
          clear hs
          go_enter Try.func54, Try.ntmps54
          go_wp2_with fail
          refine (HS.out _).mono ?_
          rintro e w9 ⟨rfl, hg⟩
          have z0 := hg.cell (a := ⟨W.heap.size + 1 + 1, 0, none⟩) (v := .int .i64 0) (by go_simp) (by simp)
          have z1 := hg.cell (a := ⟨W.heap.size + 1 + 1, 1, none⟩) (v := .int .i64 0) (by go_simp) (by simp)
          have z2 := hg.cell (a := ⟨W.heap.size + 1 + 1, 2, none⟩) (v := .int .i64 0) (by go_simp) (by simp)
          have z3 := hg.cell (a := ⟨W.heap.size + 1 + 1, 3, none⟩) (v := .int .i64 0) (by go_simp) (by simp)
          have z4 := hg.cell (a := ⟨W.heap.size + 1 + 1, 4, none⟩) (v := .int .i64 0) (by go_simp) (by simp)
          have z5 := hg.cell (a := ⟨W.heap.size + 1 + 1, 5, none⟩) (v := .int .i64 0) (by go_simp) (by simp)
          have z6 := hg.cell (a := ⟨W.heap.size + 1 + 1, 6, none⟩) (v := .int .i64 0) (by go_simp) (by simp)
          have y0 := grown_frz hg (p := ⟨W.heap.size + 1 + 1, 0, none⟩) (v := .int .i64 0) (by go_simp) (by simp) (x := false) (by go_simp)
          have y1 := grown_frz hg (p := ⟨W.heap.size + 1 + 1, 1, none⟩) (v := .int .i64 0) (by go_simp) (by simp) (x := false) (by go_simp)
          have y2 := grown_frz hg (p := ⟨W.heap.size + 1 + 1, 2, none⟩) (v := .int .i64 0) (by go_simp) (by simp) (x := false) (by go_simp)
          have y3 := grown_frz hg (p := ⟨W.heap.size + 1 + 1, 3, none⟩) (v := .int .i64 0) (by go_simp) (by simp) (x := false) (by go_simp)
          have y4 := grown_frz hg (p := ⟨W.heap.size + 1 + 1, 4, none⟩) (v := .int .i64 0) (by go_simp) (by simp) (x := false) (by go_simp)
          have y5 := grown_frz hg (p := ⟨W.heap.size + 1 + 1, 5, none⟩) (v := .int .i64 0) (by go_simp) (by simp) (x := false) (by go_simp)
          have y6 := grown_frz hg (p := ⟨W.heap.size + 1 + 1, 6, none⟩) (v := .int .i64 0) (by go_simp) (by simp) (x := false) (by go_simp)
          have HG9 := Lib.hid (show W.grownBy w9 none from grownBy_trans (by repeat (first | with_reducible refine gS ?_ (by first | omega | (simp; omega)) _ _ | with_reducible refine gA ?_ _ | with_reducible refine gD ?_ _ | with_reducible refine gd ?_ | with_reducible exact HG2.out | with_reducible exact HG.out | with_reducible exact World.grownBy.refl _ _)) hg)
          clear hg
          go_wp2_with fail
          exact bodyPost_ret (v := .agg #[.int .i64 R0, .int .i64 R1, .int .i64 R2, .int .i64 R3, .int .i64 R4, .int .i64 R5, .int .i64 R6]) (by simp [results, Try.results54, go_sem, z0, z1, z2, z3, z4, z5, z6]) rfl ⟨rfl, by repeat (first | with_reducible refine gS ?_ (by first | omega | (simp; omega)) _ _ | with_reducible exact HG9.out)⟩
        · have r3 : w + m = 1000000000 := by omega
          rw [r3] at s1
          have hs := fun W => rs_phase m 1000000000 l 1 0 o g W (by omega)
          generalize rnSet ⟨m, 1000000000, l, 1, 0, o, g⟩ = R at hs ⊢
          obtain ⟨R0, R1, R2, R3, R4, R5, R6⟩ := R
          simp only [rnV] at hs ⊢
          have HS := Lib.hid hs
          clear hs
          go_enter Try.func54, Try.ntmps54
          go_wp2_with fail
          refine (HS.out _).mono ?_
          rintro e w9 ⟨rfl, hg⟩
          have z0 := hg.cell (a := ⟨W.heap.size + 1 + 1, 0, none⟩) (v := .int .i64 0) (by go_simp) (by simp)
          have z1 := hg.cell (a := ⟨W.heap.size + 1 + 1, 1, none⟩) (v := .int .i64 0) (by go_simp) (by simp)
          have z2 := hg.cell (a := ⟨W.heap.size + 1 + 1, 2, none⟩) (v := .int .i64 0) (by go_simp) (by simp)
          have z3 := hg.cell (a := ⟨W.heap.size + 1 + 1, 3, none⟩) (v := .int .i64 0) (by go_simp) (by simp)
          have z4 := hg.cell (a := ⟨W.heap.size + 1 + 1, 4, none⟩) (v := .int .i64 0) (by go_simp) (by simp)
          have z5 := hg.cell (a := ⟨W.heap.size + 1 + 1, 5, none⟩) (v := .int .i64 0) (by go_simp) (by simp)
          have z6 := hg.cell (a := ⟨W.heap.size + 1 + 1, 6, none⟩) (v := .int .i64 0) (by go_simp) (by simp)
          have y0 := grown_frz hg (p := ⟨W.heap.size + 1 + 1, 0, none⟩) (v := .int .i64 0) (by go_simp) (by simp) (x := false) (by go_simp)
          have y1 := grown_frz hg (p := ⟨W.heap.size + 1 + 1, 1, none⟩) (v := .int .i64 0) (by go_simp) (by simp) (x := false) (by go_simp)
          have y2 := grown_frz hg (p := ⟨W.heap.size + 1 + 1, 2, none⟩) (v := .int .i64 0) (by go_simp) (by simp) (x := false) (by go_simp)
          have y3 := grown_frz hg (p := ⟨W.heap.size + 1 + 1, 3, none⟩) (v := .int .i64 0) (by go_simp) (by simp) (x := false) (by go_simp)
          have y4 := grown_frz hg (p := ⟨W.heap.size + 1 + 1, 4, none⟩) (v := .int .i64 0) (by go_simp) (by simp) (x := false) (by go_simp)
          have y5 := grown_frz hg (p := ⟨W.heap.size + 1 + 1, 5, none⟩) (v := .int .i64 0) (by go_simp) (by simp) (x := false) (by go_simp)
          have y6 := grown_frz hg (p := ⟨W.heap.size + 1 + 1, 6, none⟩) (v := .int .i64 0) (by go_simp) (by simp) (x := false) (by go_simp)
          have HG9 := Lib.hid (show W.grownBy w9 none from grownBy_trans (by repeat (first | with_reducible refine gS ?_ (by first | omega | (simp; omega)) _ _ | with_reducible refine gA ?_ _ | with_reducible refine gD ?_ _ | with_reducible refine gd ?_ | with_reducible exact HG2.out | with_reducible exact HG.out | with_reducible exact World.grownBy.refl _ _)) hg)
          clear hg
          go_wp2_with fail
          exact bodyPost_ret (v := .agg #[.int .i64 R0, .int .i64 R1, .int .i64 R2, .int .i64 R3, .int .i64 R4, .int .i64 R5, .int .i64 R6]) (by simp [results, Try.results54, go_sem, z0, z1, z2, z3, z4, z5, z6]) rfl ⟨rfl, by repeat (first | with_reducible refine gS ?_ (by first | omega | (simp; omega)) _ _ | with_reducible exact HG9.out)⟩
    · obtain rfl : m = n := by omega
      have s1 : IntKind.i64.wrap (w + m) = w + m := wr (by omega)
      by_cases r1 : w + m < 1000000000
      · have rg : gro w m = w + m := if_pos r1
        rw [rg]
        have g1 : w + m < 1000000000 := by omega
        have g2 : w + m ≤ 1000000000 := by omega
        have g3 : ¬ 1000000000 < w + m := by omega
        have g4 : ¬ 1000000000 ≤ w + m := by omega
        have hs := fun W => rs_phase m (w + m) l 1 0 o g W (by omega)
        generalize rnSet ⟨m, (w + m), l, 1, 0, o, g⟩ = R at hs ⊢
        obtain ⟨R0, R1, R2, R3, R4, R5, R6⟩ := R
        simp only [rnV] at hs ⊢
        have HS := Lib.hid hs
        clear hs
        go_enter Try.func54, Try.ntmps54
        go_wp2_with fail
        refine (HS.out _).mono ?_
        rintro e w9 ⟨rfl, hg⟩
        have z0 := hg.cell (a := ⟨W.heap.size + 1 + 1, 0, none⟩) (v := .int .i64 0) (by go_simp) (by simp)
        have z1 := hg.cell (a := ⟨W.heap.size + 1 + 1, 1, none⟩) (v := .int .i64 0) (by go_simp) (by simp)
        have z2 := hg.cell (a := ⟨W.heap.size + 1 + 1, 2, none⟩) (v := .int .i64 0) (by go_simp) (by simp)
        have z3 := hg.cell (a := ⟨W.heap.size + 1 + 1, 3, none⟩) (v := .int .i64 0) (by go_simp) (by simp)
        have z4 := hg.cell (a := ⟨W.heap.size + 1 + 1, 4, none⟩) (v := .int .i64 0) (by go_simp) (by simp)
        have z5 := hg.cell (a := ⟨W.heap.size + 1 + 1, 5, none⟩) (v := .int .i64 0) (by go_simp) (by simp)
        have z6 := hg.cell (a := ⟨W.heap.size + 1 + 1, 6, none⟩) (v := .int .i64 0) (by go_simp) (by simp)
        have y0 := grown_frz hg (p := ⟨W.heap.size + 1 + 1, 0, none⟩) (v := .int .i64 0) (by go_simp) (by simp) (x := false) (by go_simp)
        have y1 := grown_frz hg (p := ⟨W.heap.size + 1 + 1, 1, none⟩) (v := .int .i64 0) (by go_simp) (by simp) (x := false) (by go_simp)
        have y2 := grown_frz hg (p := ⟨W.heap.size + 1 + 1, 2, none⟩) (v := .int .i64 0) (by go_simp) (by simp) (x := false) (by go_simp)
        have y3 := grown_frz hg (p := ⟨W.heap.size + 1 + 1, 3, none⟩) (v := .int .i64 0) (by go_simp) (by simp) (x := false) (by go_simp)
        have y4 := grown_frz hg (p := ⟨W.heap.size + 1 + 1, 4, none⟩) (v := .int .i64 0) (by go_simp) (by simp) (x := false) (by go_simp)
        have y5 := grown_frz hg (p := ⟨W.heap.size + 1 + 1, 5, none⟩) (v := .int .i64 0) (by go_simp) (by simp) (x := false) (by go_simp)
        have y6 := grown_frz hg (p := ⟨W.heap.size + 1 + 1, 6, none⟩) (v := .int .i64 0) (by go_simp) (by simp) (x := false) (by go_simp)
        have HG9 := Lib.hid (show W.grownBy w9 none from grownBy_trans (by repeat (first | with_reducible refine gS ?_ (by first | omega | (simp; omega)) _ _ | with_reducible refine gA ?_ _ | with_reducible refine gD ?_ _ | with_reducible refine gd ?_ | with_reducible exact HG2.out | with_reducible exact HG.out | with_reducible exact World.grownBy.refl _ _)) hg)
        clear hg
        go_wp2_with fail
        exact bodyPost_ret (v := .agg #[.int .i64 R0, .int .i64 R1, .int .i64 R2, .int .i64 R3, .int .i64 R4, .int .i64 R5, .int .i64 R6]) (by simp [results, Try.results54, go_sem, z0, z1, z2, z3, z4, z5, z6]) rfl ⟨rfl, by repeat (first | with_reducible refine gS ?_ (by first | omega | (simp; omega)) _ _ | with_reducible exact HG9.out)⟩
      · have rg : gro w m = 1000000000 := if_neg r1
        rw [rg]
        by_cases r2 : 1000000000 < w + m
        · have g1 : 1000000000 < w + m := by omega
          have g2 : 1000000000 ≤ w + m := by omega
          have g3 : ¬ w + m < 1000000000 := by omega
          have g4 : ¬ w + m ≤ 1000000000 := by omega
          have hs := fun W => rs_phase m 1000000000 l 1 0 o g W (by omega)
          generalize rnSet ⟨m, 1000000000, l, 1, 0, o, g⟩ = R at hs ⊢
          obtain ⟨R0, R1, R2, R3, R4, R5, R6⟩ := R
          simp only [rnV] at hs ⊢
          have HS := Lib.hid hs
          clear hs
          go_enter Try.func54, Try.ntmps54
          go_wp2_with fail
          refine (HS.out _).mono ?_
          rintro e w9 ⟨rfl, hg⟩
          have z0 := hg.cell (a := ⟨W.heap.size + 1 + 1, 0, none⟩) (v := .int .i64 0) (by go_simp) (by simp)
          have z1 := hg.cell (a := ⟨W.heap.size + 1 + 1, 1, none⟩) (v := .int .i64 0) (by go_simp) (by simp)
          have z2 := hg.cell (a := ⟨W.heap.size + 1 + 1, 2, none⟩) (v := .int .i64 0) (by go_simp) (by simp)
          have z3 := hg.cell (a := ⟨W.heap.size + 1 + 1, 3, none⟩) (v := .int .i64 0) (by go_simp) (by simp)
          have z4 := hg.cell (a := ⟨W.heap.size + 1 + 1, 4, none⟩) (v := .int .i64 0) (by go_simp) (by simp)
          have z5 := hg.cell (a := ⟨W.heap.size + 1 + 1, 5, none⟩) (v := .int .i64 0) (by go_simp) (by simp)
          have z6 := hg.cell (a := ⟨W.heap.size + 1 + 1, 6, none⟩) (v := .int .i64 0) (by go_simp) (by simp)
          have y0 := grown_frz hg (p := ⟨W.heap.size + 1 + 1, 0, none⟩) (v := .int .i64 0) (by go_simp) (by simp) (x := false) (by go_simp)
          have y1 := grown_frz hg (p := ⟨W.heap.size + 1 + 1, 1, none⟩) (v := .int .i64 0) (by go_simp) (by simp) (x := false) (by go_simp)
          have y2 := grown_frz hg (p := ⟨W.heap.size + 1 + 1, 2, none⟩) (v := .int .i64 0) (by go_simp) (by simp) (x := false) (by go_simp)
          have y3 := grown_frz hg (p := ⟨W.heap.size + 1 + 1, 3, none⟩) (v := .int .i64 0) (by go_simp) (by simp) (x := false) (by go_simp)
          have y4 := grown_frz hg (p := ⟨W.heap.size + 1 + 1, 4, none⟩) (v := .int .i64 0) (by go_simp) (by simp) (x := false) (by go_simp)
          have y5 := grown_frz hg (p := ⟨W.heap.size + 1 + 1, 5, none⟩) (v := .int .i64 0) (by go_simp) (by simp) (x := false) (by go_simp)
          have y6 := grown_frz hg (p := ⟨W.heap.size + 1 + 1, 6, none⟩) (v := .int .i64 0) (by go_simp) (by simp) (x := false) (by go_simp)
          have HG9 := Lib.hid (show W.grownBy w9 none from grownBy_trans (by repeat (first | with_reducible refine gS ?_ (by first | omega | (simp; omega)) _ _ | with_reducible refine gA ?_ _ | with_reducible refine gD ?_ _ | with_reducible refine gd ?_ | with_reducible exact HG2.out | with_reducible exact HG.out | with_reducible exact World.grownBy.refl _ _)) hg)
          clear hg
          go_wp2_with fail
          exact bodyPost_ret (v := .agg #[.int .i64 R0, .int .i64 R1, .int .i64 R2, .int .i64 R3, .int .i64 R4, .int .i64 R5, .int .i64 R6]) (by simp [results, Try.results54, go_sem, z0, z1, z2, z3, z4, z5, z6]) rfl ⟨rfl, by repeat (first | with_reducible refine gS ?_ (by first | omega | (simp; omega)) _ _ | with_reducible exact HG9.out)⟩
        · have r3 : w + m = 1000000000 := by omega
          rw [r3] at s1
          have hs := fun W => rs_phase m 1000000000 l 1 0 o g W (by omega)
          generalize rnSet ⟨m, 1000000000, l, 1, 0, o, g⟩ = R at hs ⊢
          obtain ⟨R0, R1, R2, R3, R4, R5, R6⟩ := R
          simp only [rnV] at hs ⊢
          have HS := Lib.hid hs
          clear hs
          go_enter Try.func54, Try.ntmps54
          go_wp2_with fail
          refine (HS.out _).mono ?_
          rintro e w9 ⟨rfl, hg⟩
          have z0 := hg.cell (a := ⟨W.heap.size + 1 + 1, 0, none⟩) (v := .int .i64 0) (by go_simp) (by simp)
          have z1 := hg.cell (a := ⟨W.heap.size + 1 + 1, 1, none⟩) (v := .int .i64 0) (by go_simp) (by simp)
          have z2 := hg.cell (a := ⟨W.heap.size + 1 + 1, 2, none⟩) (v := .int .i64 0) (by go_simp) (by simp)
          have z3 := hg.cell (a := ⟨W.heap.size + 1 + 1, 3, none⟩) (v := .int .i64 0) (by go_simp) (by simp)
          have z4 := hg.cell (a := ⟨W.heap.size + 1 + 1, 4, none⟩) (v := .int .i64 0) (by go_simp) (by simp)
          have z5 := hg.cell (a := ⟨W.heap.size + 1 + 1, 5, none⟩) (v := .int .i64 0) (by go_simp) (by simp)
          have z6 := hg.cell (a := ⟨W.heap.size + 1 + 1, 6, none⟩) (v := .int .i64 0) (by go_simp) (by simp)
          have y0 := grown_frz hg (p := ⟨W.heap.size + 1 + 1, 0, none⟩) (v := .int .i64 0) (by go_simp) (by simp) (x := false) (by go_simp)
          have y1 := grown_frz hg (p := ⟨W.heap.size + 1 + 1, 1, none⟩) (v := .int .i64 0) (by go_simp) (by simp) (x := false) (by go_simp)
          have y2 := grown_frz hg (p := ⟨W.heap.size + 1 + 1, 2, none⟩) (v := .int .i64 0) (by go_simp) (by simp) (x := false) (by go_simp)
          have y3 := grown_frz hg (p := ⟨W.heap.size + 1 + 1, 3, none⟩) (v := .int .i64 0) (by go_simp) (by simp) (x := false) (by go_simp)
          have y4 := grown_frz hg (p := ⟨W.heap.size + 1 + 1, 4, none⟩) (v := .int .i64 0) (by go_simp) (by simp) (x := false) (by go_simp)
          have y5 := grown_frz hg (p := ⟨W.heap.size + 1 + 1, 5, none⟩) (v := .int .i64 0) (by go_simp) (by simp) (x := false) (by go_simp)
          have y6 := grown_frz hg (p := ⟨W.heap.size + 1 + 1, 6, none⟩) (v := .int .i64 0) (by go_simp) (by simp) (x := false) (by go_simp)
          have HG9 := Lib.hid (show W.grownBy w9 none from grownBy_trans (by repeat (first | with_reducible refine gS ?_ (by first | omega | (simp; omega)) _ _ | with_reducible refine gA ?_ _ | with_reducible refine gD ?_ _ | with_reducible refine gd ?_ | with_reducible exact HG2.out | with_reducible exact HG.out | with_reducible exact World.grownBy.refl _ _)) hg)
          clear hg
          go_wp2_with fail
          exact bodyPost_ret (v := .agg #[.int .i64 R0, .int .i64 R1, .int .i64 R2, .int .i64 R3, .int .i64 R4, .int .i64 R5, .int .i64 R6]) (by simp [results, Try.results54, go_sem, z0, z1, z2, z3, z4, z5, z6]) rfl ⟨rfl, by repeat (first | with_reducible refine gS ?_ (by first | omega | (simp; omega)) _ _ | with_reducible exact HG9.out)⟩

set_option maxRecDepth 100000 in
set_option maxHeartbeats 2000000 in
theorem rs_ack2 (m w l d o g n a f x : Int) (W : World) (hm : 1 ≤ m ∧ m ≤ 10000) (hw : m ≤ w ∧ w ≤ 1000000000) (hn : 1 ≤ n ∧ n ≤ 1000000000) (hg : 0 ≤ g ∧ g < w) : Calls Try.prog 54 #[.agg #[.int .i64 m, .int .i64 w, .int .i64 l, .int .i64 2, .int .i64 d, .int .i64 o, .int .i64 g], .agg #[.int .i64 1, .int .i64 n, .int .i64 a, .int .i64 f, .int .i64 x]] W fun e w' => e = .returned (rnV (rnAck ⟨m, w, l, 2, d, o, g⟩ ⟨1, n, a, f, x⟩)) ∧ W.grownBy w' none := by
  have hg0 := hg
  clear hg
  have s0 : IntKind.i64.wrap (g + n) = g + n := wr (by omega)
  by_cases q : w ≤ g + n
  · have s2 : IntKind.i64.wrap (g + n - w) = g + n - w := wr (by omega)
    rw [show rnAck ⟨m, w, l, 2, d, o, g⟩ ⟨1, n, a, f, x⟩ = rnSet ⟨m, gro w m, l, 2, 0, o, g + n - w⟩ from (if_neg (by first | decide | (dsimp only; decide))).trans ((if_pos rfl).trans (if_pos q))]
    have s1 : IntKind.i64.wrap (w + m) = w + m := wr (by omega)
    by_cases r1 : w + m < 1000000000
    · have rg : gro w m = w + m := if_pos r1
      rw [rg]
      have g1 : w + m < 1000000000 := by omega
      have g2 : w + m ≤ 1000000000 := by omega
      have g3 : ¬ 1000000000 < w + m := by omega
      have g4 : ¬ 1000000000 ≤ w + m := by omega
      have hs := fun W => rs_phase m (w + m) l 2 0 o (g + n - w) W (by omega)
      generalize rnSet ⟨m, (w + m), l, 2, 0, o, g + n - w⟩ = R at hs ⊢
      obtain ⟨R0, R1, R2, R3, R4, R5, R6⟩ := R
      simp only [rnV] at hs ⊢
      have HS := Lib.hid hs
      clear hs
      go_enter Try.func54, Try.ntmps54
      go_wp2_with fail
      refine (HS.out _).mono ?_
      rintro e w9 ⟨rfl, hg⟩
      have z0 := hg.cell (a := ⟨W.heap.size + 1 + 1, 0, none⟩) (v := .int .i64 0) (by go_simp) (by simp)
      have z1 := hg.cell (a := ⟨W.heap.size + 1 + 1, 1, none⟩) (v := .int .i64 0) (by go_simp) (by simp)
      have z2 := hg.cell (a := ⟨W.heap.size + 1 + 1, 2, none⟩) (v := .int .i64 0) (by go_simp) (by simp)
      have z3 := hg.cell (a := ⟨W.heap.size + 1 + 1, 3, none⟩) (v := .int .i64 0) (by go_simp) (by simp)
      have z4 := hg.cell (a := ⟨W.heap.size + 1 + 1, 4, none⟩) (v := .int .i64 0) (by go_simp) (by simp)
      have z5 := hg.cell (a := ⟨W.heap.size + 1 + 1, 5, none⟩) (v := .int .i64 0) (by go_simp) (by simp)
      have z6 := hg.cell (a := ⟨W.heap.size + 1 + 1, 6, none⟩) (v := .int .i64 0) (by go_simp) (by simp)
      have y0 := grown_frz hg (p := ⟨W.heap.size + 1 + 1, 0, none⟩) (v := .int .i64 0) (by go_simp) (by simp) (x := false) (by go_simp)
      have y1 := grown_frz hg (p := ⟨W.heap.size + 1 + 1, 1, none⟩) (v := .int .i64 0) (by go_simp) (by simp) (x := false) (by go_simp)
      have y2 := grown_frz hg (p := ⟨W.heap.size + 1 + 1, 2, none⟩) (v := .int .i64 0) (by go_simp) (by simp) (x := false) (by go_simp)
      have y3 := grown_frz hg (p := ⟨W.heap.size + 1 + 1, 3, none⟩) (v := .int .i64 0) (by go_simp) (by simp) (x := false) (by go_simp)
      have y4 := grown_frz hg (p := ⟨W.heap.size + 1 + 1, 4, none⟩) (v := .int .i64 0) (by go_simp) (by simp) (x := false) (by go_simp)
      have y5 := grown_frz hg (p := ⟨W.heap.size + 1 + 1, 5, none⟩) (v := .int .i64 0) (by go_simp) (by simp) (x := false) (by go_simp)
      have y6 := grown_frz hg (p := ⟨W.heap.size + 1 + 1, 6, none⟩) (v := .int .i64 0) (by go_simp) (by simp) (x := false) (by go_simp)
      have HG9 := Lib.hid (show W.grownBy w9 none from grownBy_trans (by repeat (first | with_reducible refine gS ?_ (by first | omega | (simp; omega)) _ _ | with_reducible refine gA ?_ _ | with_reducible refine gD ?_ _ | with_reducible refine gd ?_ | with_reducible exact HG2.out | with_reducible exact HG.out | with_reducible exact World.grownBy.refl _ _)) hg)
      clear hg
      go_wp2_with fail
      exact bodyPost_ret (v := .agg #[.int .i64 R0, .int .i64 R1, .int .i64 R2, .int .i64 R3, .int .i64 R4, .int .i64 R5, .int .i64 R6]) (by simp [results, Try.results54, go_sem, z0, z1, z2, z3, z4, z5, z6]) rfl ⟨rfl, by repeat (first | with_reducible refine gS ?_ (by first | omega | (simp; omega)) _ _ | with_reducible exact HG9.out)⟩
    · have rg : gro w m = 1000000000 := if_neg r1
      rw [rg]
      by_cases r2 : 1000000000 < w + m
      · have g1 : 1000000000 < w + m := by omega
        have g2 : 1000000000 ≤ w + m := by omega
        have g3 : ¬ w + m < 1000000000 := by omega
        have g4 : ¬ w + m ≤ 1000000000 := by omega
        have hs := fun W => rs_phase m 1000000000 l 2 0 o (g + n - w) W (by omega)
        generalize rnSet ⟨m, 1000000000, l, 2, 0, o, g + n - w⟩ = R at hs ⊢
        obtain ⟨R0, R1, R2, R3, R4, R5, R6⟩ := R
        simp only [rnV] at hs ⊢
        have HS := Lib.hid hs
        clear hs
        go_enter Try.func54, Try.ntmps54
        go_wp2_with fail
        refine (HS.out _).mono ?_
        rintro e w9 ⟨rfl, hg⟩
        have z0 := hg.cell (a := ⟨W.heap.size + 1 + 1, 0, none⟩) (v := .int .i64 0) (by go_simp) (by simp)
        have z1 := hg.cell (a := ⟨W.heap.size + 1 + 1, 1, none⟩) (v := .int .i64 0) (by go_simp) (by simp)
        have z2 := hg.cell (a := ⟨W.heap.size + 1 + 1, 2, none⟩) (v := .int .i64 0) (by go_simp) (by simp)
        have z3 := hg.cell (a := ⟨W.heap.size + 1 + 1, 3, none⟩) (v := .int .i64 0) (by go_simp) (by simp)
        have z4 := hg.cell (a := ⟨W.heap.size + 1 + 1, 4, none⟩) (v := .int .i64 0) (by go_simp) (by simp)
        have z5 := hg.cell (a := ⟨W.heap.size + 1 + 1, 5, none⟩) (v := .int .i64 0) (by go_simp) (by simp)
        have z6 := hg.cell (a := ⟨W.heap.size + 1 + 1, 6, none⟩) (v := .int .i64 0) (by go_simp) (by simp)
        have y0 := grown_frz hg (p := ⟨W.heap.size + 1 + 1, 0, none⟩) (v := .int .i64 0) (by go_simp) (by simp) (x := false) (by go_simp)
        have y1 := grown_frz hg (p := ⟨W.heap.size + 1 + 1, 1, none⟩) (v := .int .i64 0) (by go_simp) (by simp) (x := false) (by go_simp)
        have y2 := grown_frz hg (p := ⟨W.heap.size + 1 + 1, 2, none⟩) (v := .int .i64 0) (by go_simp) (by simp) (x := false) (by go_simp)
        have y3 := grown_frz hg (p := ⟨W.heap.size + 1 + 1, 3, none⟩) (v := .int .i64 0) (by go_simp) (by simp) (x := false) (by go_simp)
        have y4 := grown_frz hg (p := ⟨W.heap.size + 1 + 1, 4, none⟩) (v := .int .i64 0) (by go_simp) (by simp) (x := false) (by go_simp)
        have y5 := grown_frz hg (p := ⟨W.heap.size + 1 + 1, 5, none⟩) (v := .int .i64 0) (by go_simp) (by simp) (x := false) (by go_simp)
        have y6 := grown_frz hg (p := ⟨W.heap.size + 1 + 1, 6, none⟩) (v := .int .i64 0) (by go_simp) (by simp) (x := false) (by go_simp)
        have HG9 := Lib.hid (show W.grownBy w9 none from grownBy_trans (by repeat (first | with_reducible refine gS ?_ (by first | omega | (simp; omega)) _ _ | with_reducible refine gA ?_ _ | with_reducible refine gD ?_ _ | with_reducible refine gd ?_ | with_reducible exact HG2.out | with_reducible exact HG.out | with_reducible exact World.grownBy.refl _ _)) hg)
        clear hg
        go_wp2_with fail
        exact bodyPost_ret (v := .agg #[.int .i64 R0, .int .i64 R1, .int .i64 R2, .int .i64 R3, .int .i64 R4, .int .i64 R5, .int .i64 R6]) (by simp [results, Try.results54, go_sem, z0, z1, z2, z3, z4, z5, z6]) rfl ⟨rfl, by repeat (first | with_reducible refine gS ?_ (by first | omega | (simp; omega)) _ _ | with_reducible exact HG9.out)⟩
      · have r3 : w + m = 1000000000 := by omega
        rw [r3] at s1
        have hs := fun W => rs_phase m 1000000000 l 2 0 o (g + n - w) W (by omega)
        generalize rnSet ⟨m, 1000000000, l, 2, 0, o, g + n - w⟩ = R at hs ⊢
        obtain ⟨R0, R1, R2, R3, R4, R5, R6⟩ := R
        simp only [rnV] at hs ⊢
        have HS := Lib.hid hs
        clear hs
        go_enter Try.func54, Try.ntmps54
        go_wp2_with fail
        refine (HS.out _).mono ?_
        rintro e w9 ⟨rfl, hg⟩
        have z0 := hg.cell (a := ⟨W.heap.size + 1 + 1, 0, none⟩) (v := .int .i64 0) (by go_simp) (by simp)
        have z1 := hg.cell (a := ⟨W.heap.size + 1 + 1, 1, none⟩) (v := .int .i64 0) (by go_simp) (by simp)
        have z2 := hg.cell (a := ⟨W.heap.size + 1 + 1, 2, none⟩) (v := .int .i64 0) (by go_simp) (by simp)
        have z3 := hg.cell (a := ⟨W.heap.size + 1 + 1, 3, none⟩) (v := .int .i64 0) (by go_simp) (by simp)
        have z4 := hg.cell (a := ⟨W.heap.size + 1 + 1, 4, none⟩) (v := .int .i64 0) (by go_simp) (by simp)
        have z5 := hg.cell (a := ⟨W.heap.size + 1 + 1, 5, none⟩) (v := .int .i64 0) (by go_simp) (by simp)
        have z6 := hg.cell (a := ⟨W.heap.size + 1 + 1, 6, none⟩) (v := .int .i64 0) (by go_simp) (by simp)
        have y0 := grown_frz hg (p := ⟨W.heap.size + 1 + 1, 0, none⟩) (v := .int .i64 0) (by go_simp) (by simp) (x := false) (by go_simp)
        have y1 := grown_frz hg (p := ⟨W.heap.size + 1 + 1, 1, none⟩) (v := .int .i64 0) (by go_simp) (by simp) (x := false) (by go_simp)
        have y2 := grown_frz hg (p := ⟨W.heap.size + 1 + 1, 2, none⟩) (v := .int .i64 0) (by go_simp) (by simp) (x := false) (by go_simp)
        have y3 := grown_frz hg (p := ⟨W.heap.size + 1 + 1, 3, none⟩) (v := .int .i64 0) (by go_simp) (by simp) (x := false) (by go_simp)
        have y4 := grown_frz hg (p := ⟨W.heap.size + 1 + 1, 4, none⟩) (v := .int .i64 0) (by go_simp) (by simp) (x := false) (by go_simp)
        have y5 := grown_frz hg (p := ⟨W.heap.size + 1 + 1, 5, none⟩) (v := .int .i64 0) (by go_simp) (by simp) (x := false) (by go_simp)
        have y6 := grown_frz hg (p := ⟨W.heap.size + 1 + 1, 6, none⟩) (v := .int .i64 0) (by go_simp) (by simp) (x := false) (by go_simp)
        have HG9 := Lib.hid (show W.grownBy w9 none from grownBy_trans (by repeat (first | with_reducible refine gS ?_ (by first | omega | (simp; omega)) _ _ | with_reducible refine gA ?_ _ | with_reducible refine gD ?_ _ | with_reducible refine gd ?_ | with_reducible exact HG2.out | with_reducible exact HG.out | with_reducible exact World.grownBy.refl _ _)) hg)
        clear hg
        go_wp2_with fail
        exact bodyPost_ret (v := .agg #[.int .i64 R0, .int .i64 R1, .int .i64 R2, .int .i64 R3, .int .i64 R4, .int .i64 R5, .int .i64 R6]) (by simp [results, Try.results54, go_sem, z0, z1, z2, z3, z4, z5, z6]) rfl ⟨rfl, by repeat (first | with_reducible refine gS ?_ (by first | omega | (simp; omega)) _ _ | with_reducible exact HG9.out)⟩
  · have q0 : g + n < w := by omega
    rw [show rnAck ⟨m, w, l, 2, d, o, g⟩ ⟨1, n, a, f, x⟩ = rnSet ⟨m, w, l, 2, 0, o, g + n⟩ from (if_neg (by first | decide | (dsimp only; decide))).trans ((if_pos rfl).trans (if_neg q))]
    have hs := fun W => rs_phase m w l 2 0 o (g + n) W (by omega)
    generalize rnSet ⟨m, w, l, 2, 0, o, g + n⟩ = R at hs ⊢
    obtain ⟨R0, R1, R2, R3, R4, R5, R6⟩ := R
    simp only [rnV] at hs ⊢
    have HS := Lib.hid hs
    clear hs
    go_enter Try.func54, Try.ntmps54
    go_wp2_with fail
    refine (HS.out _).mono ?_
    rintro e w9 ⟨rfl, hg⟩
    have z0 := hg.cell (a := ⟨W.heap.size + 1 + 1, 0, none⟩) (v := .int .i64 0) (by go_simp) (by simp)
    have z1 := hg.cell (a := ⟨W.heap.size + 1 + 1, 1, none⟩) (v := .int .i64 0) (by go_simp) (by simp)
    have z2 := hg.cell (a := ⟨W.heap.size + 1 + 1, 2, none⟩) (v := .int .i64 0) (by go_simp) (by simp)
    have z3 := hg.cell (a := ⟨W.heap.size + 1 + 1, 3, none⟩) (v := .int .i64 0) (by go_simp) (by simp)
    have z4 := hg.cell (a := ⟨W.heap.size + 1 + 1, 4, none⟩) (v := .int .i64 0) (by go_simp) (by simp)
    have z5 := hg.cell (a := ⟨W.heap.size + 1 + 1, 5, none⟩) (v := .int .i64 0) (by go_simp) (by simp)
    have z6 := hg.cell (a := ⟨W.heap.size + 1 + 1, 6, none⟩) (v := .int .i64 0) (by go_simp) (by simp)
    have y0 := grown_frz hg (p := ⟨W.heap.size + 1 + 1, 0, none⟩) (v := .int .i64 0) (by go_simp) (by simp) (x := false) (by go_simp)
    have y1 := grown_frz hg (p := ⟨W.heap.size + 1 + 1, 1, none⟩) (v := .int .i64 0) (by go_simp) (by simp) (x := false) (by go_simp)
    have y2 := grown_frz hg (p := ⟨W.heap.size + 1 + 1, 2, none⟩) (v := .int .i64 0) (by go_simp) (by simp) (x := false) (by go_simp)
    have y3 := grown_frz hg (p := ⟨W.heap.size + 1 + 1, 3, none⟩) (v := .int .i64 0) (by go_simp) (by simp) (x := false) (by go_simp)
    have y4 := grown_frz hg (p := ⟨W.heap.size + 1 + 1, 4, none⟩) (v := .int .i64 0) (by go_simp) (by simp) (x := false) (by go_simp)
    have y5 := grown_frz hg (p := ⟨W.heap.size + 1 + 1, 5, none⟩) (v := .int .i64 0) (by go_simp) (by simp) (x := false) (by go_simp)
    have y6 := grown_frz hg (p := ⟨W.heap.size + 1 + 1, 6, none⟩) (v := .int .i64 0) (by go_simp) (by simp) (x := false) (by go_simp)
    have HG9 := Lib.hid (show W.grownBy w9 none from grownBy_trans (by repeat (first | with_reducible refine gS ?_ (by first | omega | (simp; omega)) _ _ | with_reducible refine gA ?_ _ | with_reducible refine gD ?_ _ | with_reducible refine gd ?_ | with_reducible exact HG2.out | with_reducible exact HG.out | with_reducible exact World.grownBy.refl _ _)) hg)
    clear hg
    go_wp2_with fail
    exact bodyPost_ret (v := .agg #[.int .i64 R0, .int .i64 R1, .int .i64 R2, .int .i64 R3, .int .i64 R4, .int .i64 R5, .int .i64 R6]) (by simp [results, Try.results54, go_sem, z0, z1, z2, z3, z4, z5, z6]) rfl ⟨rfl, by repeat (first | with_reducible refine gS ?_ (by first | omega | (simp; omega)) _ _ | with_reducible exact HG9.out)⟩

set_option maxRecDepth 100000 in
set_option maxHeartbeats 2000000 in
theorem rs_ack3 (m w l d o g n a f x : Int) (W : World) (hm : 1 ≤ m ∧ m ≤ 10000) (hw : m ≤ w ∧ w ≤ 1000000000) (hn : 1 ≤ n ∧ n ≤ 1000000000) (hl : 1 ≤ l ∧ l ≤ 1000000000) : Calls Try.prog 54 #[.agg #[.int .i64 m, .int .i64 w, .int .i64 l, .int .i64 3, .int .i64 d, .int .i64 o, .int .i64 g], .agg #[.int .i64 1, .int .i64 n, .int .i64 a, .int .i64 f, .int .i64 x]] W fun e w' => e = .returned (rnV (rnAck ⟨m, w, l, 3, d, o, g⟩ ⟨1, n, a, f, x⟩)) ∧ W.grownBy w' none := by
  by_cases q : a < o
  · have q0 : ¬ o ≤ a := by omega
    have d0 : decide (o ≤ a) = false := decide_eq_false q0
    have s1 : IntKind.i64.wrap (w - n) = w - n := wr (by omega)
    have s2 : IntKind.i64.wrap (w - n + m) = w - n + m := wr (by omega)
    by_cases q1 : w < n
    · rw [show rnAck ⟨m, w, l, 3, d, o, g⟩ ⟨1, n, a, f, x⟩ = ⟨m, m, l, 3, d, o, g⟩ from by rw [show rnAck ⟨m, w, l, 3, d, o, g⟩ ⟨1, n, a, f, x⟩ = ⟨m, gro (if w < n then 0 else w - n) m, l, 3, d, o, g⟩ from (if_neg (by first | decide | (dsimp only; decide))).trans ((if_neg (by first | decide | (dsimp only; decide))).trans (if_pos q)), if_pos q1, show gro 0 m = m from by unfold gro; rw [if_pos (by omega)]; omega]]
      simp only [rnV]
      obtain ⟨t, ht⟩ : ∃ t, t = w - n + m := ⟨_, rfl⟩
      rw [← ht] at s2
      have s3 : IntKind.i64.wrap (w - n + m) = t := by rw [ht]; exact wr (by omega)
      have t1 : t < m := by omega
      clear s2 ht
      have g1 : t < 1000000000 := by omega
      have g2 : t ≤ 1000000000 := by omega
      have g3 : ¬ 1000000000 < t := by omega
      have g4 : ¬ 1000000000 ≤ t := by omega
      have j1 : t < m := by omega
      have j2 : t ≤ m := by omega
      have j3 : ¬ m < t := by omega
      have j4 : ¬ m ≤ t := by omega
      go_enter Try.func54, Try.ntmps54
      go_wp2
      exact bodyPost_ret (v := .agg #[.int .i64 m, .int .i64 m, .int .i64 l, .int .i64 3, .int .i64 d, .int .i64 o, .int .i64 g]) (by simp [results, Try.results54, go_sem]) rfl ⟨rfl, by repeat (first | with_reducible refine gS ?_ (by first | omega | (simp; omega)) _ _ | with_reducible refine gA ?_ _ | with_reducible refine gD ?_ _ | with_reducible refine gd ?_ | with_reducible exact World.grownBy.refl _ _)⟩
    · rw [show rnAck ⟨m, w, l, 3, d, o, g⟩ ⟨1, n, a, f, x⟩ = ⟨m, gro (w - n) m, l, 3, d, o, g⟩ from by rw [show rnAck ⟨m, w, l, 3, d, o, g⟩ ⟨1, n, a, f, x⟩ = ⟨m, gro (if w < n then 0 else w - n) m, l, 3, d, o, g⟩ from (if_neg (by first | decide | (dsimp only; decide))).trans ((if_neg (by first | decide | (dsimp only; decide))).trans (if_pos q)), if_neg q1]]
      simp only [rnV]
      obtain ⟨t, ht⟩ : ∃ t, t = w - n + m := ⟨_, rfl⟩
      have s3 : IntKind.i64.wrap (w - n + m) = t := by rw [ht]; exact wr (by omega)
      have t1 : m ≤ t := by omega
      have rg : gro (w - n) m = if t < 1000000000 then t else 1000000000 := by rw [ht]; rfl
      rw [rg]
      clear s2 ht rg
      by_cases r1 : t < 1000000000
      · rw [if_pos r1]
        by_cases r2 : m < t
        · have g1 : t < 1000000000 := by omega
          have g2 : t ≤ 1000000000 := by omega
          have g3 : ¬ 1000000000 < t := by omega
          have g4 : ¬ 1000000000 ≤ t := by omega
          have j1 : m < t := by omega
          have j2 : m ≤ t := by omega
          have j3 : ¬ t < m := by omega
          have j4 : ¬ t ≤ m := by omega
          go_enter Try.func54, Try.ntmps54
          go_wp2
          exact bodyPost_ret (v := .agg #[.int .i64 m, .int .i64 t, .int .i64 l, .int .i64 3, .int .i64 d, .int .i64 o, .int .i64 g]) (by simp [results, Try.results54, go_sem]) rfl ⟨rfl, by repeat (first | with_reducible refine gS ?_ (by first | omega | (simp; omega)) _ _ | with_reducible refine gA ?_ _ | with_reducible refine gD ?_ _ | with_reducible refine gd ?_ | with_reducible exact World.grownBy.refl _ _)⟩
        · obtain rfl : m = t := by omega
          have g1 : m < 1000000000 := by omega
          have g2 : m ≤ 1000000000 := by omega
          have g3 : ¬ 1000000000 < m := by omega
          have g4 : ¬ 1000000000 ≤ m := by omega
          go_enter Try.func54, Try.ntmps54
          go_wp2
          exact bodyPost_ret (v := .agg #[.int .i64 m, .int .i64 m, .int .i64 l, .int .i64 3, .int .i64 d, .int .i64 o, .int .i64 g]) (by simp [results, Try.results54, go_sem]) rfl ⟨rfl, by repeat (first | with_reducible refine gS ?_ (by first | omega | (simp; omega)) _ _ | with_reducible refine gA ?_ _ | with_reducible refine gD ?_ _ | with_reducible refine gd ?_ | with_reducible exact World.grownBy.refl _ _)⟩
      · rw [if_neg r1]
        have j5 : m < 1000000000 := by omega
        by_cases r2 : 1000000000 < t
        · have g1 : 1000000000 < t := by omega
          have g2 : 1000000000 ≤ t := by omega
          have g3 : ¬ t < 1000000000 := by omega
          have g4 : ¬ t ≤ 1000000000 := by omega
          have j1 : m < 1000000000 := by omega
          have j2 : m ≤ 1000000000 := by omega
          have j3 : ¬ 1000000000 < m := by omega
          have j4 : ¬ 1000000000 ≤ m := by omega
          go_enter Try.func54, Try.ntmps54
          go_wp2
          exact bodyPost_ret (v := .agg #[.int .i64 m, .int .i64 1000000000, .int .i64 l, .int .i64 3, .int .i64 d, .int .i64 o, .int .i64 g]) (by simp [results, Try.results54, go_sem]) rfl ⟨rfl, by repeat (first | with_reducible refine gS ?_ (by first | omega | (simp; omega)) _ _ | with_reducible refine gA ?_ _ | with_reducible refine gD ?_ _ | with_reducible refine gd ?_ | with_reducible exact World.grownBy.refl _ _)⟩
        · obtain rfl : t = 1000000000 := by omega
          have j1 : m < 1000000000 := by omega
          have j2 : m ≤ 1000000000 := by omega
          have j3 : ¬ 1000000000 < m := by omega
          have j4 : ¬ 1000000000 ≤ m := by omega
          go_enter Try.func54, Try.ntmps54
          go_wp2
          exact bodyPost_ret (v := .agg #[.int .i64 m, .int .i64 1000000000, .int .i64 l, .int .i64 3, .int .i64 d, .int .i64 o, .int .i64 g]) (by simp [results, Try.results54, go_sem]) rfl ⟨rfl, by repeat (first | with_reducible refine gS ?_ (by first | omega | (simp; omega)) _ _ | with_reducible refine gA ?_ _ | with_reducible refine gD ?_ _ | with_reducible refine gd ?_ | with_reducible exact World.grownBy.refl _ _)⟩
  · have q0 : o ≤ a := by omega
    have d0 : decide (o ≤ a) = true := decide_eq_true q0
    rw [show rnAck ⟨m, w, l, 3, d, o, g⟩ ⟨1, n, a, f, x⟩ = rnSet ⟨m, l, l, 3, 0, o, g⟩ from (if_neg (by first | decide | (dsimp only; decide))).trans ((if_neg (by first | decide | (dsimp only; decide))).trans (if_neg q))]
    have hs := fun W => rs_phase m l l 3 0 o g W (by omega)
    generalize rnSet ⟨m, l, l, 3, 0, o, g⟩ = R at hs ⊢
    obtain ⟨R0, R1, R2, R3, R4, R5, R6⟩ := R
    simp only [rnV] at hs ⊢
    have HS := Lib.hid hs
    clear hs
    by_cases r1 : l < 1000000000
    · have g1 : l < 1000000000 := by omega
      have g2 : l ≤ 1000000000 := by omega
      have g3 : ¬ 1000000000 < l := by omega
      have g4 : ¬ 1000000000 ≤ l := by omega
      go_enter Try.func54, Try.ntmps54
      go_wp2_with fail
      refine (HS.out _).mono ?_
      rintro e w9 ⟨rfl, hg⟩
      have z0 := hg.cell (a := ⟨W.heap.size + 1 + 1, 0, none⟩) (v := .int .i64 0) (by go_simp) (by simp)
      have z1 := hg.cell (a := ⟨W.heap.size + 1 + 1, 1, none⟩) (v := .int .i64 0) (by go_simp) (by simp)
      have z2 := hg.cell (a := ⟨W.heap.size + 1 + 1, 2, none⟩) (v := .int .i64 0) (by go_simp) (by simp)
      have z3 := hg.cell (a := ⟨W.heap.size + 1 + 1, 3, none⟩) (v := .int .i64 0) (by go_simp) (by simp)
      have z4 := hg.cell (a := ⟨W.heap.size + 1 + 1, 4, none⟩) (v := .int .i64 0) (by go_simp) (by simp)
      have z5 := hg.cell (a := ⟨W.heap.size + 1 + 1, 5, none⟩) (v := .int .i64 0) (by go_simp) (by simp)
      have z6 := hg.cell (a := ⟨W.heap.size + 1 + 1, 6, none⟩) (v := .int .i64 0) (by go_simp) (by simp)
      have y0 := grown_frz hg (p := ⟨W.heap.size + 1 + 1, 0, none⟩) (v := .int .i64 0) (by go_simp) (by simp) (x := false) (by go_simp)
      have y1 := grown_frz hg (p := ⟨W.heap.size + 1 + 1, 1, none⟩) (v := .int .i64 0) (by go_simp) (by simp) (x := false) (by go_simp)
      have y2 := grown_frz hg (p := ⟨W.heap.size + 1 + 1, 2, none⟩) (v := .int .i64 0) (by go_simp) (by simp) (x := false) (by go_simp)
      have y3 := grown_frz hg (p := ⟨W.heap.size + 1 + 1, 3, none⟩) (v := .int .i64 0) (by go_simp) (by simp) (x := false) (by go_simp)
      have y4 := grown_frz hg (p := ⟨W.heap.size + 1 + 1, 4, none⟩) (v := .int .i64 0) (by go_simp) (by simp) (x := false) (by go_simp)
      have y5 := grown_frz hg (p := ⟨W.heap.size + 1 + 1, 5, none⟩) (v := .int .i64 0) (by go_simp) (by simp) (x := false) (by go_simp)
      have y6 := grown_frz hg (p := ⟨W.heap.size + 1 + 1, 6, none⟩) (v := .int .i64 0) (by go_simp) (by simp) (x := false) (by go_simp)
      have HG9 := Lib.hid (show W.grownBy w9 none from grownBy_trans (by repeat (first | with_reducible refine gS ?_ (by first | omega | (simp; omega)) _ _ | with_reducible refine gA ?_ _ | with_reducible refine gD ?_ _ | with_reducible refine gd ?_ | with_reducible exact HG2.out | with_reducible exact HG.out | with_reducible exact World.grownBy.refl _ _)) hg)
      clear hg
      go_wp2_with fail
      exact bodyPost_ret (v := .agg #[.int .i64 R0, .int .i64 R1, .int .i64 R2, .int .i64 R3, .int .i64 R4, .int .i64 R5, .int .i64 R6]) (by simp [results, Try.results54, go_sem, z0, z1, z2, z3, z4, z5, z6]) rfl ⟨rfl, by repeat (first | with_reducible refine gS ?_ (by first | omega | (simp; omega)) _ _ | with_reducible exact HG9.out)⟩
    · obtain rfl : l = 1000000000 := by omega
      go_enter Try.func54, Try.ntmps54
      go_wp2_with fail
      refine (HS.out _).mono ?_
      rintro e w9 ⟨rfl, hg⟩
      have z0 := hg.cell (a := ⟨W.heap.size + 1 + 1, 0, none⟩) (v := .int .i64 0) (by go_simp) (by simp)
      have z1 := hg.cell (a := ⟨W.heap.size + 1 + 1, 1, none⟩) (v := .int .i64 0) (by go_simp) (by simp)
      have z2 := hg.cell (a := ⟨W.heap.size + 1 + 1, 2, none⟩) (v := .int .i64 0) (by go_simp) (by simp)
      have z3 := hg.cell (a := ⟨W.heap.size + 1 + 1, 3, none⟩) (v := .int .i64 0) (by go_simp) (by simp)
      have z4 := hg.cell (a := ⟨W.heap.size + 1 + 1, 4, none⟩) (v := .int .i64 0) (by go_simp) (by simp)
      have z5 := hg.cell (a := ⟨W.heap.size + 1 + 1, 5, none⟩) (v := .int .i64 0) (by go_simp) (by simp)
      have z6 := hg.cell (a := ⟨W.heap.size + 1 + 1, 6, none⟩) (v := .int .i64 0) (by go_simp) (by simp)
      have y0 := grown_frz hg (p := ⟨W.heap.size + 1 + 1, 0, none⟩) (v := .int .i64 0) (by go_simp) (by simp) (x := false) (by go_simp)
      have y1 := grown_frz hg (p := ⟨W.heap.size + 1 + 1, 1, none⟩) (v := .int .i64 0) (by go_simp) (by simp) (x := false) (by go_simp)
      have y2 := grown_frz hg (p := ⟨W.heap.size + 1 + 1, 2, none⟩) (v := .int .i64 0) (by go_simp) (by simp) (x := false) (by go_simp)
      have y3 := grown_frz hg (p := ⟨W.heap.size + 1 + 1, 3, none⟩) (v := .int .i64 0) (by go_simp) (by simp) (x := false) (by go_simp)
      have y4 := grown_frz hg (p := ⟨W.heap.size + 1 + 1, 4, none⟩) (v := .int .i64 0) (by go_simp) (by simp) (x := false) (by go_simp)
      have y5 := grown_frz hg (p := ⟨W.heap.size + 1 + 1, 5, none⟩) (v := .int .i64 0) (by go_simp) (by simp) (x := false) (by go_simp)
      have y6 := grown_frz hg (p := ⟨W.heap.size + 1 + 1, 6, none⟩) (v := .int .i64 0) (by go_simp) (by simp) (x := false) (by go_simp)
      have HG9 := Lib.hid (show W.grownBy w9 none from grownBy_trans (by repeat (first | with_reducible refine gS ?_ (by first | omega | (simp; omega)) _ _ | with_reducible refine gA ?_ _ | with_reducible refine gD ?_ _ | with_reducible refine gd ?_ | with_reducible exact HG2.out | with_reducible exact HG.out | with_reducible exact World.grownBy.refl _ _)) hg)
      clear hg
      go_wp2_with fail
      exact bodyPost_ret (v := .agg #[.int .i64 R0, .int .i64 R1, .int .i64 R2, .int .i64 R3, .int .i64 R4, .int .i64 R5, .int .i64 R6]) (by simp [results, Try.results54, go_sem, z0, z1, z2, z3, z4, z5, z6]) rfl ⟨rfl, by repeat (first | with_reducible refine gS ?_ (by first | omega | (simp; omega)) _ _ | with_reducible exact HG9.out)⟩

end Go.Proofs.Ytedhemllgpbheaa

