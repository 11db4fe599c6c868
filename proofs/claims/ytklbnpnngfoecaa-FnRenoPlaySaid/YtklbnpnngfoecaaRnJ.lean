/- Windows: the program's phases. -/
import Derived.Test.YtklbnpnngfoecaaRnI
namespace Go.Proofs.Ytklbnpnngfoecaa
open Go.RowKit

set_option maxRecDepth 100000 in
set_option maxHeartbeats 2000000 in
theorem rn_slow (m w l d o g k n a f x : Int) (W : World) (hm : 1 ≤ m ∧ m ≤ 10000) (hw : m ≤ w ∧ w ≤ 1000000000) (hf : 0 ≤ f ∧ f ≤ 1000000000) (hd : 0 ≤ d ∧ d ≤ 2) (hn : k = 1 → 1 ≤ n ∧ n ≤ 1000000000) (hk : k = 1 ∨ k = 2 ∨ k = 3) : Calls Try.prog 29 #[.agg #[.int .i64 m, .int .i64 w, .int .i64 l, .int .i64 1, .int .i64 d, .int .i64 o, .int .i64 g], .agg #[.int .i64 k, .int .i64 n, .int .i64 a, .int .i64 f, .int .i64 x]] W fun e w' => e = .returned (rnV (if k = 1 then rnAck ⟨m, w, l, 1, d, o, g⟩ ⟨k, n, a, f, x⟩ else if k = 3 then rnLate ⟨m, w, l, 1, d, o, g⟩ ⟨k, n, a, f, x⟩ else rnNo ⟨m, w, l, 1, d, o, g⟩ ⟨k, n, a, f, x⟩)) ∧ W.grownBy w' none := by
  have hn1 := hn
  by_cases hk1 : k = 1
  · subst hk1
    rw [if_pos rfl]
    have hb : ∃ t, t = mn n m ∧ 1 ≤ t ∧ t ≤ 1000000000 := ⟨_, rfl, by unfold mn; split <;> omega⟩
    obtain ⟨t, ht, hb⟩ := hb
    have hgb : 1 ≤ gro w t ∧ gro w t ≤ 1000000000 := by unfold gro; split <;> omega
    rw [show rnAck ⟨m, w, l, 1, d, o, g⟩ ⟨1, n, a, f, x⟩ = rnSet ⟨m, gro w t, l, 1, 0, o, g⟩ from by rw [ht]; exact if_pos rfl]
    have hgr := fun W => rn_grown w t W (by omega) (by omega)
    have HGR := Lib.hid hgr
    clear hgr
    generalize gro w t = G at HGR hgb ⊢
    have hs := fun W => rn_settled m G l 1 0 o g W hgb
    generalize rnSet ⟨m, G, l, 1, 0, o, g⟩ = R at hs ⊢
    obtain ⟨R0, R1, R2, R3, R4, R5, R6⟩ := R
    simp only [rnV] at hs ⊢
    have HS := Lib.hid hs
    clear hs
    unfold mn at ht
    by_cases q1 : n < m
    · have q2 : ¬ m < n := by omega
      have q3 : n ≤ m := by omega
      rw [if_pos q1] at ht
      subst ht
      go_enter Try.func29, Try.ntmps29
      go_wp2_with fail
      refine (HGR.out _).mono ?_
      rintro e w1 ⟨rfl, rfl⟩
      go_wp2_with fail
      refine (HS.out _).mono ?_
      rintro e w9 ⟨rfl, hg⟩
      have z0 := hg.cell (a := ⟨W.heap.size + 1 + 1, 0, none⟩) (v := .int .i64 0) (by go_simp) (by simp)
      have z1 := hg.cell (a := ⟨W.heap.size + 1 + 1, 1, none⟩) (v := .int .i64 0) (by go_simp) (by simp)
      have z2 := hg.cell (a := ⟨W.heap.size + 1 + 1, 2, none⟩) (v := .int .i64 0) (by go_simp) (by simp)
      have z3 := hg.cell (a := ⟨W.heap.size + 1 + 1, 3, none⟩) (v := .int .i64 0) (by go_simp) (by simp)
      have z4 := hg.cell (a := ⟨W.heap.size + 1 + 1, 4, none⟩) (v := .int .i64 0) (by go_simp) (by simp)
      have z5 := hg.cell (a := ⟨W.heap.size + 1 + 1, 5, none⟩) (v := .int .i64 0) (by go_simp) (by simp)
      have z6 := hg.cell (a := ⟨W.heap.size + 1 + 1, 6, none⟩) (v := .int .i64 0) (by go_simp) (by simp)
      have y0 := grown_frz hg (p := ⟨W.heap.size + 1 + 1, 0, none⟩) (v := .int .i64 0) (by go_simp) (by simp) (x := false) (by go_simp)
      have y1 := grown_frz hg (p := ⟨W.heap.size + 1 + 1, 1, none⟩) (v := .int .i64 0) (by go_simp) (by simp) (x := false) (by go_simp)
      have y2 := grown_frz hg (p := ⟨W.heap.size + 1 + 1, 2, none⟩) (v := .int .i64 0) (by go_simp) (by simp) (x := false) (by go_simp)
      have y3 := grown_frz hg (p := ⟨W.heap.size + 1 + 1, 3, none⟩) (v := .int .i64 0) (by go_simp) (by simp) (x := false) (by go_simp)
      have y4 := grown_frz hg (p := ⟨W.heap.size + 1 + 1, 4, none⟩) (v := .int .i64 0) (by go_simp) (by simp) (x := false) (by go_simp)
      have y5 := grown_frz hg (p := ⟨W.heap.size + 1 + 1, 5, none⟩) (v := .int .i64 0) (by go_simp) (by simp) (x := false) (by go_simp)
      have y6 := grown_frz hg (p := ⟨W.heap.size + 1 + 1, 6, none⟩) (v := .int .i64 0) (by go_simp) (by simp) (x := false) (by go_simp)
      have HG9 := Lib.hid (show W.grownBy w9 none from grownBy_trans (by repeat (first | with_reducible refine gS ?_ (by first | omega | (simp; omega)) _ _ | with_reducible refine gA ?_ _ | with_reducible refine gD ?_ _ | with_reducible refine gd ?_ | with_reducible exact HG2.out | with_reducible exact HG.out | with_reducible exact World.grownBy.refl _ _)) hg)
      clear hg
      go_wp2_with fail
      exact bodyPost_ret (v := .agg #[.int .i64 R0, .int .i64 R1, .int .i64 R2, .int .i64 R3, .int .i64 R4, .int .i64 R5, .int .i64 R6]) (by simp [results, Try.results29, go_sem, z0, z1, z2, z3, z4, z5, z6]) rfl ⟨rfl, by repeat (first | with_reducible refine gS ?_ (by first | omega | (simp; omega)) _ _ | with_reducible exact HG9.out)⟩
    · rw [if_neg q1] at ht
      subst ht
      by_cases q2 : t < n
      · have q3 : ¬ n ≤ t := by omega
        go_enter Try.func29, Try.ntmps29
        go_wp2_with fail
        refine (HGR.out _).mono ?_
        rintro e w1 ⟨rfl, rfl⟩
        go_wp2_with fail
        refine (HS.out _).mono ?_
        rintro e w9 ⟨rfl, hg⟩
        have z0 := hg.cell (a := ⟨W.heap.size + 1 + 1, 0, none⟩) (v := .int .i64 0) (by go_simp) (by simp)
        have z1 := hg.cell (a := ⟨W.heap.size + 1 + 1, 1, none⟩) (v := .int .i64 0) (by go_simp) (by simp)
        have z2 := hg.cell (a := ⟨W.heap.size + 1 + 1, 2, none⟩) (v := .int .i64 0) (by go_simp) (by simp)
        have z3 := hg.cell (a := ⟨W.heap.size + 1 + 1, 3, none⟩) (v := .int .i64 0) (by go_simp) (by simp)
        have z4 := hg.cell (a := ⟨W.heap.size + 1 + 1, 4, none⟩) (v := .int .i64 0) (by go_simp) (by simp)
        have z5 := hg.cell (a := ⟨W.heap.size + 1 + 1, 5, none⟩) (v := .int .i64 0) (by go_simp) (by simp)
        have z6 := hg.cell (a := ⟨W.heap.size + 1 + 1, 6, none⟩) (v := .int .i64 0) (by go_simp) (by simp)
        have y0 := grown_frz hg (p := ⟨W.heap.size + 1 + 1, 0, none⟩) (v := .int .i64 0) (by go_simp) (by simp) (x := false) (by go_simp)
        have y1 := grown_frz hg (p := ⟨W.heap.size + 1 + 1, 1, none⟩) (v := .int .i64 0) (by go_simp) (by simp) (x := false) (by go_simp)
        have y2 := grown_frz hg (p := ⟨W.heap.size + 1 + 1, 2, none⟩) (v := .int .i64 0) (by go_simp) (by simp) (x := false) (by go_simp)
        have y3 := grown_frz hg (p := ⟨W.heap.size + 1 + 1, 3, none⟩) (v := .int .i64 0) (by go_simp) (by simp) (x := false) (by go_simp)
        have y4 := grown_frz hg (p := ⟨W.heap.size + 1 + 1, 4, none⟩) (v := .int .i64 0) (by go_simp) (by simp) (x := false) (by go_simp)
        have y5 := grown_frz hg (p := ⟨W.heap.size + 1 + 1, 5, none⟩) (v := .int .i64 0) (by go_simp) (by simp) (x := false) (by go_simp)
        have y6 := grown_frz hg (p := ⟨W.heap.size + 1 + 1, 6, none⟩) (v := .int .i64 0) (by go_simp) (by simp) (x := false) (by go_simp)
        have HG9 := Lib.hid (show W.grownBy w9 none from grownBy_trans (by repeat (first | with_reducible refine gS ?_ (by first | omega | (simp; omega)) _ _ | with_reducible refine gA ?_ _ | with_reducible refine gD ?_ _ | with_reducible refine gd ?_ | with_reducible exact HG2.out | with_reducible exact HG.out | with_reducible exact World.grownBy.refl _ _)) hg)
        clear hg
        go_wp2_with fail
        exact bodyPost_ret (v := .agg #[.int .i64 R0, .int .i64 R1, .int .i64 R2, .int .i64 R3, .int .i64 R4, .int .i64 R5, .int .i64 R6]) (by simp [results, Try.results29, go_sem, z0, z1, z2, z3, z4, z5, z6]) rfl ⟨rfl, by repeat (first | with_reducible refine gS ?_ (by first | omega | (simp; omega)) _ _ | with_reducible exact HG9.out)⟩
      · obtain rfl : n = t := by omega
        go_enter Try.func29, Try.ntmps29
        go_wp2_with fail
        refine (HGR.out _).mono ?_
        rintro e w1 ⟨rfl, rfl⟩
        go_wp2_with fail
        refine (HS.out _).mono ?_
        rintro e w9 ⟨rfl, hg⟩
        have z0 := hg.cell (a := ⟨W.heap.size + 1 + 1, 0, none⟩) (v := .int .i64 0) (by go_simp) (by simp)
        have z1 := hg.cell (a := ⟨W.heap.size + 1 + 1, 1, none⟩) (v := .int .i64 0) (by go_simp) (by simp)
        have z2 := hg.cell (a := ⟨W.heap.size + 1 + 1, 2, none⟩) (v := .int .i64 0) (by go_simp) (by simp)
        have z3 := hg.cell (a := ⟨W.heap.size + 1 + 1, 3, none⟩) (v := .int .i64 0) (by go_simp) (by simp)
        have z4 := hg.cell (a := ⟨W.heap.size + 1 + 1, 4, none⟩) (v := .int .i64 0) (by go_simp) (by simp)
        have z5 := hg.cell (a := ⟨W.heap.size + 1 + 1, 5, none⟩) (v := .int .i64 0) (by go_simp) (by simp)
        have z6 := hg.cell (a := ⟨W.heap.size + 1 + 1, 6, none⟩) (v := .int .i64 0) (by go_simp) (by simp)
        have y0 := grown_frz hg (p := ⟨W.heap.size + 1 + 1, 0, none⟩) (v := .int .i64 0) (by go_simp) (by simp) (x := false) (by go_simp)
        have y1 := grown_frz hg (p := ⟨W.heap.size + 1 + 1, 1, none⟩) (v := .int .i64 0) (by go_simp) (by simp) (x := false) (by go_simp)
        have y2 := grown_frz hg (p := ⟨W.heap.size + 1 + 1, 2, none⟩) (v := .int .i64 0) (by go_simp) (by simp) (x := false) (by go_simp)
        have y3 := grown_frz hg (p := ⟨W.heap.size + 1 + 1, 3, none⟩) (v := .int .i64 0) (by go_simp) (by simp) (x := false) (by go_simp)
        have y4 := grown_frz hg (p := ⟨W.heap.size + 1 + 1, 4, none⟩) (v := .int .i64 0) (by go_simp) (by simp) (x := false) (by go_simp)
        have y5 := grown_frz hg (p := ⟨W.heap.size + 1 + 1, 5, none⟩) (v := .int .i64 0) (by go_simp) (by simp) (x := false) (by go_simp)
        have y6 := grown_frz hg (p := ⟨W.heap.size + 1 + 1, 6, none⟩) (v := .int .i64 0) (by go_simp) (by simp) (x := false) (by go_simp)
        have HG9 := Lib.hid (show W.grownBy w9 none from grownBy_trans (by repeat (first | with_reducible refine gS ?_ (by first | omega | (simp; omega)) _ _ | with_reducible refine gA ?_ _ | with_reducible refine gD ?_ _ | with_reducible refine gd ?_ | with_reducible exact HG2.out | with_reducible exact HG.out | with_reducible exact World.grownBy.refl _ _)) hg)
        clear hg
        go_wp2_with fail
        exact bodyPost_ret (v := .agg #[.int .i64 R0, .int .i64 R1, .int .i64 R2, .int .i64 R3, .int .i64 R4, .int .i64 R5, .int .i64 R6]) (by simp [results, Try.results29, go_sem, z0, z1, z2, z3, z4, z5, z6]) rfl ⟨rfl, by repeat (first | with_reducible refine gS ?_ (by first | omega | (simp; omega)) _ _ | with_reducible exact HG9.out)⟩
  · rw [if_neg hk1]
    have hs := fun W => rn_no m w l 1 d o g k n a f x W hm hf hd (by omega)
    generalize (if k = 3 then rnLate ⟨m, w, l, 1, d, o, g⟩ ⟨k, n, a, f, x⟩ else rnNo ⟨m, w, l, 1, d, o, g⟩ ⟨k, n, a, f, x⟩) = R at hs ⊢
    obtain ⟨R0, R1, R2, R3, R4, R5, R6⟩ := R
    simp only [rnV] at hs ⊢
    have HS := Lib.hid hs
    clear hs
    go_enter Try.func29, Try.ntmps29
    go_wp2_with fail
    refine (HS.out _).mono ?_
    rintro e w9 ⟨rfl, hg⟩
    have z0 := hg.cell (a := ⟨W.heap.size + 1 + 1, 0, none⟩) (v := .int .i64 0) (by go_simp) (by simp)
    have z1 := hg.cell (a := ⟨W.heap.size + 1 + 1, 1, none⟩) (v := .int .i64 0) (by go_simp) (by simp)
    have z2 := hg.cell (a := ⟨W.heap.size + 1 + 1, 2, none⟩) (v := .int .i64 0) (by go_simp) (by simp)
    have z3 := hg.cell (a := ⟨W.heap.size + 1 + 1, 3, none⟩) (v := .int .i64 0) (by go_simp) (by simp)
    have z4 := hg.cell (a := ⟨W.heap.size + 1 + 1, 4, none⟩) (v := .int .i64 0) (by go_simp) (by simp)
    have z5 := hg.cell (a := ⟨W.heap.size + 1 + 1, 5, none⟩) (v := .int .i64 0) (by go_simp) (by simp)
    have z6 := hg.cell (a := ⟨W.heap.size + 1 + 1, 6, none⟩) (v := .int .i64 0) (by go_simp) (by simp)
    have y0 := grown_frz hg (p := ⟨W.heap.size + 1 + 1, 0, none⟩) (v := .int .i64 0) (by go_simp) (by simp) (x := false) (by go_simp)
    have y1 := grown_frz hg (p := ⟨W.heap.size + 1 + 1, 1, none⟩) (v := .int .i64 0) (by go_simp) (by simp) (x := false) (by go_simp)
    have y2 := grown_frz hg (p := ⟨W.heap.size + 1 + 1, 2, none⟩) (v := .int .i64 0) (by go_simp) (by simp) (x := false) (by go_simp)
    have y3 := grown_frz hg (p := ⟨W.heap.size + 1 + 1, 3, none⟩) (v := .int .i64 0) (by go_simp) (by simp) (x := false) (by go_simp)
    have y4 := grown_frz hg (p := ⟨W.heap.size + 1 + 1, 4, none⟩) (v := .int .i64 0) (by go_simp) (by simp) (x := false) (by go_simp)
    have y5 := grown_frz hg (p := ⟨W.heap.size + 1 + 1, 5, none⟩) (v := .int .i64 0) (by go_simp) (by simp) (x := false) (by go_simp)
    have y6 := grown_frz hg (p := ⟨W.heap.size + 1 + 1, 6, none⟩) (v := .int .i64 0) (by go_simp) (by simp) (x := false) (by go_simp)
    have HG9 := Lib.hid (show W.grownBy w9 none from grownBy_trans (by repeat (first | with_reducible refine gS ?_ (by first | omega | (simp; omega)) _ _ | with_reducible refine gA ?_ _ | with_reducible refine gD ?_ _ | with_reducible refine gd ?_ | with_reducible exact HG2.out | with_reducible exact HG.out | with_reducible exact World.grownBy.refl _ _)) hg)
    clear hg
    go_wp2_with fail
    exact bodyPost_ret (v := .agg #[.int .i64 R0, .int .i64 R1, .int .i64 R2, .int .i64 R3, .int .i64 R4, .int .i64 R5, .int .i64 R6]) (by simp [results, Try.results29, go_sem, z0, z1, z2, z3, z4, z5, z6]) rfl ⟨rfl, by repeat (first | with_reducible refine gS ?_ (by first | omega | (simp; omega)) _ _ | with_reducible exact HG9.out)⟩
set_option maxRecDepth 100000 in
set_option maxHeartbeats 2000000 in
theorem rn_avoid (m w l d o g k n a f x : Int) (W : World) (hm : 1 ≤ m ∧ m ≤ 10000) (hw : m ≤ w ∧ w ≤ 1000000000) (hf : 0 ≤ f ∧ f ≤ 1000000000) (hd : 0 ≤ d ∧ d ≤ 2) (hg : 0 ≤ g ∧ g < w) (hn : k = 1 → 1 ≤ n ∧ n ≤ 1000000000) (hk : k = 1 ∨ k = 2 ∨ k = 3) : Calls Try.prog 30 #[.agg #[.int .i64 m, .int .i64 w, .int .i64 l, .int .i64 2, .int .i64 d, .int .i64 o, .int .i64 g], .agg #[.int .i64 k, .int .i64 n, .int .i64 a, .int .i64 f, .int .i64 x]] W fun e w' => e = .returned (rnV (if k = 1 then rnAck ⟨m, w, l, 2, d, o, g⟩ ⟨k, n, a, f, x⟩ else if k = 3 then rnLate ⟨m, w, l, 2, d, o, g⟩ ⟨k, n, a, f, x⟩ else rnNo ⟨m, w, l, 2, d, o, g⟩ ⟨k, n, a, f, x⟩)) ∧ W.grownBy w' none := by
  have hg0 := hg
  clear hg
  by_cases hk1 : k = 1
  · subst hk1
    rw [if_pos rfl]
    have hn := hn rfl
    have hs0 : IntKind.i64.wrap (g + n) = g + n := wr (by omega)
    by_cases q : w ≤ g + n
    · have hs1 : IntKind.i64.wrap (g + n - w) = g + n - w := wr (by omega)
      have hgb : 1 ≤ gro w m ∧ gro w m ≤ 1000000000 := by unfold gro; split <;> omega
      rw [show rnAck ⟨m, w, l, 2, d, o, g⟩ ⟨1, n, a, f, x⟩ = rnSet ⟨m, gro w m, l, 2, 0, o, g + n - w⟩ from (if_neg (by first | decide | (dsimp only; decide))).trans ((if_pos rfl).trans (if_pos q))]
      have hgr := fun W => rn_grown w m W (by omega) (by omega)
      have HGR := Lib.hid hgr
      clear hgr
      generalize gro w m = G at HGR hgb ⊢
      have hs := fun W => rn_settled m G l 2 0 o (g + n - w) W hgb
      generalize rnSet ⟨m, G, l, 2, 0, o, g + n - w⟩ = R at hs ⊢
      obtain ⟨R0, R1, R2, R3, R4, R5, R6⟩ := R
      simp only [rnV] at hs ⊢
      have HS := Lib.hid hs
      clear hs
      go_enter Try.func30, Try.ntmps30
      go_wp2_with fail
      refine (HGR.out _).mono ?_
      rintro e w1 ⟨rfl, rfl⟩
      go_wp2_with fail
      refine (HS.out _).mono ?_
      rintro e w9 ⟨rfl, hg⟩
      have z0 := hg.cell (a := ⟨W.heap.size + 1 + 1, 0, none⟩) (v := .int .i64 0) (by go_simp) (by simp)
      have z1 := hg.cell (a := ⟨W.heap.size + 1 + 1, 1, none⟩) (v := .int .i64 0) (by go_simp) (by simp)
      have z2 := hg.cell (a := ⟨W.heap.size + 1 + 1, 2, none⟩) (v := .int .i64 0) (by go_simp) (by simp)
      have z3 := hg.cell (a := ⟨W.heap.size + 1 + 1, 3, none⟩) (v := .int .i64 0) (by go_simp) (by simp)
      have z4 := hg.cell (a := ⟨W.heap.size + 1 + 1, 4, none⟩) (v := .int .i64 0) (by go_simp) (by simp)
      have z5 := hg.cell (a := ⟨W.heap.size + 1 + 1, 5, none⟩) (v := .int .i64 0) (by go_simp) (by simp)
      have z6 := hg.cell (a := ⟨W.heap.size + 1 + 1, 6, none⟩) (v := .int .i64 0) (by go_simp) (by simp)
      have y0 := grown_frz hg (p := ⟨W.heap.size + 1 + 1, 0, none⟩) (v := .int .i64 0) (by go_simp) (by simp) (x := false) (by go_simp)
      have y1 := grown_frz hg (p := ⟨W.heap.size + 1 + 1, 1, none⟩) (v := .int .i64 0) (by go_simp) (by simp) (x := false) (by go_simp)
      have y2 := grown_frz hg (p := ⟨W.heap.size + 1 + 1, 2, none⟩) (v := .int .i64 0) (by go_simp) (by simp) (x := false) (by go_simp)
      have y3 := grown_frz hg (p := ⟨W.heap.size + 1 + 1, 3, none⟩) (v := .int .i64 0) (by go_simp) (by simp) (x := false) (by go_simp)
      have y4 := grown_frz hg (p := ⟨W.heap.size + 1 + 1, 4, none⟩) (v := .int .i64 0) (by go_simp) (by simp) (x := false) (by go_simp)
      have y5 := grown_frz hg (p := ⟨W.heap.size + 1 + 1, 5, none⟩) (v := .int .i64 0) (by go_simp) (by simp) (x := false) (by go_simp)
      have y6 := grown_frz hg (p := ⟨W.heap.size + 1 + 1, 6, none⟩) (v := .int .i64 0) (by go_simp) (by simp) (x := false) (by go_simp)
      have HG9 := Lib.hid (show W.grownBy w9 none from grownBy_trans (by repeat (first | with_reducible refine gS ?_ (by first | omega | (simp; omega)) _ _ | with_reducible refine gA ?_ _ | with_reducible refine gD ?_ _ | with_reducible refine gd ?_ | with_reducible exact HG2.out | with_reducible exact HG.out | with_reducible exact World.grownBy.refl _ _)) hg)
      clear hg
      go_wp2_with fail
      exact bodyPost_ret (v := .agg #[.int .i64 R0, .int .i64 R1, .int .i64 R2, .int .i64 R3, .int .i64 R4, .int .i64 R5, .int .i64 R6]) (by simp [results, Try.results30, go_sem, z0, z1, z2, z3, z4, z5, z6]) rfl ⟨rfl, by repeat (first | with_reducible refine gS ?_ (by first | omega | (simp; omega)) _ _ | with_reducible exact HG9.out)⟩
    · rw [show rnAck ⟨m, w, l, 2, d, o, g⟩ ⟨1, n, a, f, x⟩ = rnSet ⟨m, w, l, 2, 0, o, g + n⟩ from (if_neg (by first | decide | (dsimp only; decide))).trans ((if_pos rfl).trans (if_neg q))]
      have hs := fun W => rn_settled m w l 2 0 o (g + n) W (by omega)
      generalize rnSet ⟨m, w, l, 2, 0, o, g + n⟩ = R at hs ⊢
      obtain ⟨R0, R1, R2, R3, R4, R5, R6⟩ := R
      simp only [rnV] at hs ⊢
      have HS := Lib.hid hs
      clear hs
      go_enter Try.func30, Try.ntmps30
      go_wp2_with fail
      refine (HS.out _).mono ?_
      rintro e w9 ⟨rfl, hg⟩
      have z0 := hg.cell (a := ⟨W.heap.size + 1 + 1, 0, none⟩) (v := .int .i64 0) (by go_simp) (by simp)
      have z1 := hg.cell (a := ⟨W.heap.size + 1 + 1, 1, none⟩) (v := .int .i64 0) (by go_simp) (by simp)
      have z2 := hg.cell (a := ⟨W.heap.size + 1 + 1, 2, none⟩) (v := .int .i64 0) (by go_simp) (by simp)
      have z3 := hg.cell (a := ⟨W.heap.size + 1 + 1, 3, none⟩) (v := .int .i64 0) (by go_simp) (by simp)
      have z4 := hg.cell (a := ⟨W.heap.size + 1 + 1, 4, none⟩) (v := .int .i64 0) (by go_simp) (by simp)
      have z5 := hg.cell (a := ⟨W.heap.size + 1 + 1, 5, none⟩) (v := .int .i64 0) (by go_simp) (by simp)
      have z6 := hg.cell (a := ⟨W.heap.size + 1 + 1, 6, none⟩) (v := .int .i64 0) (by go_simp) (by simp)
      have y0 := grown_frz hg (p := ⟨W.heap.size + 1 + 1, 0, none⟩) (v := .int .i64 0) (by go_simp) (by simp) (x := false) (by go_simp)
      have y1 := grown_frz hg (p := ⟨W.heap.size + 1 + 1, 1, none⟩) (v := .int .i64 0) (by go_simp) (by simp) (x := false) (by go_simp)
      have y2 := grown_frz hg (p := ⟨W.heap.size + 1 + 1, 2, none⟩) (v := .int .i64 0) (by go_simp) (by simp) (x := false) (by go_simp)
      have y3 := grown_frz hg (p := ⟨W.heap.size + 1 + 1, 3, none⟩) (v := .int .i64 0) (by go_simp) (by simp) (x := false) (by go_simp)
      have y4 := grown_frz hg (p := ⟨W.heap.size + 1 + 1, 4, none⟩) (v := .int .i64 0) (by go_simp) (by simp) (x := false) (by go_simp)
      have y5 := grown_frz hg (p := ⟨W.heap.size + 1 + 1, 5, none⟩) (v := .int .i64 0) (by go_simp) (by simp) (x := false) (by go_simp)
      have y6 := grown_frz hg (p := ⟨W.heap.size + 1 + 1, 6, none⟩) (v := .int .i64 0) (by go_simp) (by simp) (x := false) (by go_simp)
      have HG9 := Lib.hid (show W.grownBy w9 none from grownBy_trans (by repeat (first | with_reducible refine gS ?_ (by first | omega | (simp; omega)) _ _ | with_reducible refine gA ?_ _ | with_reducible refine gD ?_ _ | with_reducible refine gd ?_ | with_reducible exact HG2.out | with_reducible exact HG.out | with_reducible exact World.grownBy.refl _ _)) hg)
      clear hg
      go_wp2_with fail
      exact bodyPost_ret (v := .agg #[.int .i64 R0, .int .i64 R1, .int .i64 R2, .int .i64 R3, .int .i64 R4, .int .i64 R5, .int .i64 R6]) (by simp [results, Try.results30, go_sem, z0, z1, z2, z3, z4, z5, z6]) rfl ⟨rfl, by repeat (first | with_reducible refine gS ?_ (by first | omega | (simp; omega)) _ _ | with_reducible exact HG9.out)⟩
  · rw [if_neg hk1]
    have hs := fun W => rn_no m w l 2 d o g k n a f x W hm hf hd (by omega)
    generalize (if k = 3 then rnLate ⟨m, w, l, 2, d, o, g⟩ ⟨k, n, a, f, x⟩ else rnNo ⟨m, w, l, 2, d, o, g⟩ ⟨k, n, a, f, x⟩) = R at hs ⊢
    obtain ⟨R0, R1, R2, R3, R4, R5, R6⟩ := R
    simp only [rnV] at hs ⊢
    have HS := Lib.hid hs
    clear hs
    go_enter Try.func30, Try.ntmps30
    go_wp2_with fail
    refine (HS.out _).mono ?_
    rintro e w9 ⟨rfl, hg⟩
    have z0 := hg.cell (a := ⟨W.heap.size + 1 + 1, 0, none⟩) (v := .int .i64 0) (by go_simp) (by simp)
    have z1 := hg.cell (a := ⟨W.heap.size + 1 + 1, 1, none⟩) (v := .int .i64 0) (by go_simp) (by simp)
    have z2 := hg.cell (a := ⟨W.heap.size + 1 + 1, 2, none⟩) (v := .int .i64 0) (by go_simp) (by simp)
    have z3 := hg.cell (a := ⟨W.heap.size + 1 + 1, 3, none⟩) (v := .int .i64 0) (by go_simp) (by simp)
    have z4 := hg.cell (a := ⟨W.heap.size + 1 + 1, 4, none⟩) (v := .int .i64 0) (by go_simp) (by simp)
    have z5 := hg.cell (a := ⟨W.heap.size + 1 + 1, 5, none⟩) (v := .int .i64 0) (by go_simp) (by simp)
    have z6 := hg.cell (a := ⟨W.heap.size + 1 + 1, 6, none⟩) (v := .int .i64 0) (by go_simp) (by simp)
    have y0 := grown_frz hg (p := ⟨W.heap.size + 1 + 1, 0, none⟩) (v := .int .i64 0) (by go_simp) (by simp) (x := false) (by go_simp)
    have y1 := grown_frz hg (p := ⟨W.heap.size + 1 + 1, 1, none⟩) (v := .int .i64 0) (by go_simp) (by simp) (x := false) (by go_simp)
    have y2 := grown_frz hg (p := ⟨W.heap.size + 1 + 1, 2, none⟩) (v := .int .i64 0) (by go_simp) (by simp) (x := false) (by go_simp)
    have y3 := grown_frz hg (p := ⟨W.heap.size + 1 + 1, 3, none⟩) (v := .int .i64 0) (by go_simp) (by simp) (x := false) (by go_simp)
    have y4 := grown_frz hg (p := ⟨W.heap.size + 1 + 1, 4, none⟩) (v := .int .i64 0) (by go_simp) (by simp) (x := false) (by go_simp)
    have y5 := grown_frz hg (p := ⟨W.heap.size + 1 + 1, 5, none⟩) (v := .int .i64 0) (by go_simp) (by simp) (x := false) (by go_simp)
    have y6 := grown_frz hg (p := ⟨W.heap.size + 1 + 1, 6, none⟩) (v := .int .i64 0) (by go_simp) (by simp) (x := false) (by go_simp)
    have HG9 := Lib.hid (show W.grownBy w9 none from grownBy_trans (by repeat (first | with_reducible refine gS ?_ (by first | omega | (simp; omega)) _ _ | with_reducible refine gA ?_ _ | with_reducible refine gD ?_ _ | with_reducible refine gd ?_ | with_reducible exact HG2.out | with_reducible exact HG.out | with_reducible exact World.grownBy.refl _ _)) hg)
    clear hg
    go_wp2_with fail
    exact bodyPost_ret (v := .agg #[.int .i64 R0, .int .i64 R1, .int .i64 R2, .int .i64 R3, .int .i64 R4, .int .i64 R5, .int .i64 R6]) (by simp [results, Try.results30, go_sem, z0, z1, z2, z3, z4, z5, z6]) rfl ⟨rfl, by repeat (first | with_reducible refine gS ?_ (by first | omega | (simp; omega)) _ _ | with_reducible exact HG9.out)⟩
set_option maxRecDepth 100000 in
set_option maxHeartbeats 2000000 in
theorem rn_acked (m w l d o g k n a f x : Int) (W : World) (hm : 1 ≤ m ∧ m ≤ 10000) (hw : m ≤ w ∧ w ≤ 1000000000) (hl : 1 ≤ l ∧ l ≤ 1000000000) (hn : 1 ≤ n ∧ n ≤ 1000000000) : Calls Try.prog 39 #[.agg #[.int .i64 m, .int .i64 w, .int .i64 l, .int .i64 3, .int .i64 d, .int .i64 o, .int .i64 g], .agg #[.int .i64 k, .int .i64 n, .int .i64 a, .int .i64 f, .int .i64 x]] W fun e w' => e = .returned (rnV (rnAck ⟨m, w, l, 3, d, o, g⟩ ⟨k, n, a, f, x⟩)) ∧ W.grownBy w' none := by
  by_cases q : a < o
  · have hs1 : IntKind.i64.wrap (w - n) = w - n := wr (by omega)
    obtain ⟨t, ht⟩ : ∃ t, t = if w < n then 0 else w - n := ⟨_, rfl⟩
    rw [show rnAck ⟨m, w, l, 3, d, o, g⟩ ⟨k, n, a, f, x⟩ = ⟨m, gro t m, l, 3, d, o, g⟩ from by rw [ht]; exact (if_neg (by first | decide | (dsimp only; decide))).trans ((if_neg (by first | decide | (dsimp only; decide))).trans (if_pos q))]
    have htb : 0 ≤ t ∧ t ≤ 1000000000 := by rw [ht]; split <;> omega
    have hgr := fun W => rn_grown t m W htb (by omega)
    have HGR := Lib.hid hgr
    clear hgr
    generalize gro t m = G at HGR ⊢
    simp only [rnV]
    by_cases q1 : w < n
    · rw [if_pos q1] at ht
      subst ht
      have q2 : w - n < 0 := by omega
      have q3 : ¬ 0 < w - n := by omega
      have q4 : w - n ≤ 0 := by omega
      have q5 : ¬ 0 ≤ w - n := by omega
      go_enter Try.func39, Try.ntmps39
      go_wp2_with fail
      refine (HGR.out _).mono ?_
      rintro e w1 ⟨rfl, rfl⟩
      go_wp2_with fail
      exact bodyPost_ret (v := .agg #[.int .i64 m, .int .i64 G, .int .i64 l, .int .i64 3, .int .i64 d, .int .i64 o, .int .i64 g]) (by simp [results, Try.results39, go_sem]) rfl ⟨rfl, by repeat (first | with_reducible refine gS ?_ (by first | omega | (simp; omega)) _ _ | with_reducible refine gA ?_ _ | with_reducible refine gD ?_ _ | with_reducible refine gd ?_ | with_reducible exact World.grownBy.refl _ _)⟩
    · rw [if_neg q1] at ht
      have hs2 : IntKind.i64.wrap (w - n) = t := by rw [ht]; exact hs1
      clear hs1
      by_cases q2 : 0 < t
      · have q3 : ¬ t < 0 := by omega
        have q4 : ¬ t ≤ 0 := by omega
        have q5 : 0 ≤ t := by omega
        clear ht
        go_enter Try.func39, Try.ntmps39
        go_wp2_with fail
        refine (HGR.out _).mono ?_
        rintro e w1 ⟨rfl, rfl⟩
        go_wp2_with fail
        exact bodyPost_ret (v := .agg #[.int .i64 m, .int .i64 G, .int .i64 l, .int .i64 3, .int .i64 d, .int .i64 o, .int .i64 g]) (by simp [results, Try.results39, go_sem]) rfl ⟨rfl, by repeat (first | with_reducible refine gS ?_ (by first | omega | (simp; omega)) _ _ | with_reducible refine gA ?_ _ | with_reducible refine gD ?_ _ | with_reducible refine gd ?_ | with_reducible exact World.grownBy.refl _ _)⟩
      · obtain rfl : t = 0 := by omega
        clear ht
        go_enter Try.func39, Try.ntmps39
        go_wp2_with fail
        refine (HGR.out _).mono ?_
        rintro e w1 ⟨rfl, rfl⟩
        go_wp2_with fail
        exact bodyPost_ret (v := .agg #[.int .i64 m, .int .i64 G, .int .i64 l, .int .i64 3, .int .i64 d, .int .i64 o, .int .i64 g]) (by simp [results, Try.results39, go_sem]) rfl ⟨rfl, by repeat (first | with_reducible refine gS ?_ (by first | omega | (simp; omega)) _ _ | with_reducible refine gA ?_ _ | with_reducible refine gD ?_ _ | with_reducible refine gd ?_ | with_reducible exact World.grownBy.refl _ _)⟩
  · rw [show rnAck ⟨m, w, l, 3, d, o, g⟩ ⟨k, n, a, f, x⟩ = rnSet ⟨m, l, l, 3, 0, o, g⟩ from (if_neg (by first | decide | (dsimp only; decide))).trans ((if_neg (by first | decide | (dsimp only; decide))).trans (if_neg q))]
    have hs := fun W => rn_settled m l l 3 0 o g W (by omega)
    generalize rnSet ⟨m, l, l, 3, 0, o, g⟩ = R at hs ⊢
    obtain ⟨R0, R1, R2, R3, R4, R5, R6⟩ := R
    simp only [rnV] at hs ⊢
    have HS := Lib.hid hs
    clear hs
    go_enter Try.func39, Try.ntmps39
    go_wp2_with fail
    refine (HS.out _).mono ?_
    rintro e w9 ⟨rfl, hg⟩
    have z0 := hg.cell (a := ⟨W.heap.size + 1 + 1, 0, none⟩) (v := .int .i64 0) (by go_simp) (by simp)
    have z1 := hg.cell (a := ⟨W.heap.size + 1 + 1, 1, none⟩) (v := .int .i64 0) (by go_simp) (by simp)
    have z2 := hg.cell (a := ⟨W.heap.size + 1 + 1, 2, none⟩) (v := .int .i64 0) (by go_simp) (by simp)
    have z3 := hg.cell (a := ⟨W.heap.size + 1 + 1, 3, none⟩) (v := .int .i64 0) (by go_simp) (by simp)
    have z4 := hg.cell (a := ⟨W.heap.size + 1 + 1, 4, none⟩) (v := .int .i64 0) (by go_simp) (by simp)
    have z5 := hg.cell (a := ⟨W.heap.size + 1 + 1, 5, none⟩) (v := .int .i64 0) (by go_simp) (by simp)
    have z6 := hg.cell (a := ⟨W.heap.size + 1 + 1, 6, none⟩) (v := .int .i64 0) (by go_simp) (by simp)
    have y0 := grown_frz hg (p := ⟨W.heap.size + 1 + 1, 0, none⟩) (v := .int .i64 0) (by go_simp) (by simp) (x := false) (by go_simp)
    have y1 := grown_frz hg (p := ⟨W.heap.size + 1 + 1, 1, none⟩) (v := .int .i64 0) (by go_simp) (by simp) (x := false) (by go_simp)
    have y2 := grown_frz hg (p := ⟨W.heap.size + 1 + 1, 2, none⟩) (v := .int .i64 0) (by go_simp) (by simp) (x := false) (by go_simp)
    have y3 := grown_frz hg (p := ⟨W.heap.size + 1 + 1, 3, none⟩) (v := .int .i64 0) (by go_simp) (by simp) (x := false) (by go_simp)
    have y4 := grown_frz hg (p := ⟨W.heap.size + 1 + 1, 4, none⟩) (v := .int .i64 0) (by go_simp) (by simp) (x := false) (by go_simp)
    have y5 := grown_frz hg (p := ⟨W.heap.size + 1 + 1, 5, none⟩) (v := .int .i64 0) (by go_simp) (by simp) (x := false) (by go_simp)
    have y6 := grown_frz hg (p := ⟨W.heap.size + 1 + 1, 6, none⟩) (v := .int .i64 0) (by go_simp) (by simp) (x := false) (by go_simp)
    have HG9 := Lib.hid (show W.grownBy w9 none from grownBy_trans (by repeat (first | with_reducible refine gS ?_ (by first | omega | (simp; omega)) _ _ | with_reducible refine gA ?_ _ | with_reducible refine gD ?_ _ | with_reducible refine gd ?_ | with_reducible exact HG2.out | with_reducible exact HG.out | with_reducible exact World.grownBy.refl _ _)) hg)
    clear hg
    go_wp2_with fail
    exact bodyPost_ret (v := .agg #[.int .i64 R0, .int .i64 R1, .int .i64 R2, .int .i64 R3, .int .i64 R4, .int .i64 R5, .int .i64 R6]) (by simp [results, Try.results39, go_sem, z0, z1, z2, z3, z4, z5, z6]) rfl ⟨rfl, by repeat (first | with_reducible refine gS ?_ (by first | omega | (simp; omega)) _ _ | with_reducible exact HG9.out)⟩
set_option maxRecDepth 100000 in
set_option maxHeartbeats 2000000 in
theorem rn_mend (m w l d o g k n a f x : Int) (W : World) (hm : 1 ≤ m ∧ m ≤ 10000) (hw : m ≤ w ∧ w ≤ 1000000000) (hl : 1 ≤ l ∧ l ≤ 1000000000) (hf : 0 ≤ f ∧ f ≤ 1000000000) (hn : k = 1 → 1 ≤ n ∧ n ≤ 1000000000) (hk : k = 1 ∨ k = 2 ∨ k = 3) : Calls Try.prog 31 #[.agg #[.int .i64 m, .int .i64 w, .int .i64 l, .int .i64 3, .int .i64 d, .int .i64 o, .int .i64 g], .agg #[.int .i64 k, .int .i64 n, .int .i64 a, .int .i64 f, .int .i64 x]] W fun e w' => e = .returned (rnV (rnStep ⟨m, w, l, 3, d, o, g⟩ ⟨k, n, a, f, x⟩)) ∧ W.grownBy w' none := by
  rcases hk with rfl | rfl | rfl
  · rw [show rnStep ⟨m, w, l, 3, d, o, g⟩ ⟨1, n, a, f, x⟩ = rnAck ⟨m, w, l, 3, d, o, g⟩ ⟨1, n, a, f, x⟩ from if_pos rfl]
    have hs := fun W => rn_acked m w l d o g 1 n a f x W hm hw hl (hn rfl)
    generalize rnAck ⟨m, w, l, 3, d, o, g⟩ ⟨1, n, a, f, x⟩ = R at hs ⊢
    obtain ⟨R0, R1, R2, R3, R4, R5, R6⟩ := R
    simp only [rnV] at hs ⊢
    have HS := Lib.hid hs
    clear hs
    go_enter Try.func31, Try.ntmps31
    go_wp2_with fail
    refine (HS.out _).mono ?_
    rintro e w9 ⟨rfl, hg⟩
    have z0 := hg.cell (a := ⟨W.heap.size + 1 + 1, 0, none⟩) (v := .int .i64 0) (by go_simp) (by simp)
    have z1 := hg.cell (a := ⟨W.heap.size + 1 + 1, 1, none⟩) (v := .int .i64 0) (by go_simp) (by simp)
    have z2 := hg.cell (a := ⟨W.heap.size + 1 + 1, 2, none⟩) (v := .int .i64 0) (by go_simp) (by simp)
    have z3 := hg.cell (a := ⟨W.heap.size + 1 + 1, 3, none⟩) (v := .int .i64 0) (by go_simp) (by simp)
    have z4 := hg.cell (a := ⟨W.heap.size + 1 + 1, 4, none⟩) (v := .int .i64 0) (by go_simp) (by simp)
    have z5 := hg.cell (a := ⟨W.heap.size + 1 + 1, 5, none⟩) (v := .int .i64 0) (by go_simp) (by simp)
    have z6 := hg.cell (a := ⟨W.heap.size + 1 + 1, 6, none⟩) (v := .int .i64 0) (by go_simp) (by simp)
    have y0 := grown_frz hg (p := ⟨W.heap.size + 1 + 1, 0, none⟩) (v := .int .i64 0) (by go_simp) (by simp) (x := false) (by go_simp)
    have y1 := grown_frz hg (p := ⟨W.heap.size + 1 + 1, 1, none⟩) (v := .int .i64 0) (by go_simp) (by simp) (x := false) (by go_simp)
    have y2 := grown_frz hg (p := ⟨W.heap.size + 1 + 1, 2, none⟩) (v := .int .i64 0) (by go_simp) (by simp) (x := false) (by go_simp)
    have y3 := grown_frz hg (p := ⟨W.heap.size + 1 + 1, 3, none⟩) (v := .int .i64 0) (by go_simp) (by simp) (x := false) (by go_simp)
    have y4 := grown_frz hg (p := ⟨W.heap.size + 1 + 1, 4, none⟩) (v := .int .i64 0) (by go_simp) (by simp) (x := false) (by go_simp)
    have y5 := grown_frz hg (p := ⟨W.heap.size + 1 + 1, 5, none⟩) (v := .int .i64 0) (by go_simp) (by simp) (x := false) (by go_simp)
    have y6 := grown_frz hg (p := ⟨W.heap.size + 1 + 1, 6, none⟩) (v := .int .i64 0) (by go_simp) (by simp) (x := false) (by go_simp)
    have HG9 := Lib.hid (show W.grownBy w9 none from grownBy_trans (by repeat (first | with_reducible refine gS ?_ (by first | omega | (simp; omega)) _ _ | with_reducible refine gA ?_ _ | with_reducible refine gD ?_ _ | with_reducible refine gd ?_ | with_reducible exact HG2.out | with_reducible exact HG.out | with_reducible exact World.grownBy.refl _ _)) hg)
    clear hg
    go_wp2_with fail
    exact bodyPost_ret (v := .agg #[.int .i64 R0, .int .i64 R1, .int .i64 R2, .int .i64 R3, .int .i64 R4, .int .i64 R5, .int .i64 R6]) (by simp [results, Try.results31, go_sem, z0, z1, z2, z3, z4, z5, z6]) rfl ⟨rfl, by repeat (first | with_reducible refine gS ?_ (by first | omega | (simp; omega)) _ _ | with_reducible exact HG9.out)⟩
  · rw [show rnStep ⟨m, w, l, 3, d, o, g⟩ ⟨2, n, a, f, x⟩ = ⟨m, gro w m, l, 3, d, o, g⟩ from (if_neg (by first | decide | (dsimp only; decide))).trans ((if_neg (by first | decide | (dsimp only; decide))).trans (if_pos rfl))]
    have hgr := fun W => rn_grown w m W (by omega) (by omega)
    have HGR := Lib.hid hgr
    clear hgr
    generalize gro w m = G at HGR ⊢
    simp only [rnV]
    go_enter Try.func31, Try.ntmps31
    go_wp2_with fail
    refine (HGR.out _).mono ?_
    rintro e w1 ⟨rfl, rfl⟩
    go_wp2_with fail
    exact bodyPost_ret (v := .agg #[.int .i64 m, .int .i64 G, .int .i64 l, .int .i64 3, .int .i64 d, .int .i64 o, .int .i64 g]) (by simp [results, Try.results31, go_sem]) rfl ⟨rfl, by repeat (first | with_reducible refine gS ?_ (by first | omega | (simp; omega)) _ _ | with_reducible refine gA ?_ _ | with_reducible refine gD ?_ _ | with_reducible refine gd ?_ | with_reducible exact World.grownBy.refl _ _)⟩
  · rw [show rnStep ⟨m, w, l, 3, d, o, g⟩ ⟨3, n, a, f, x⟩ = rnLate ⟨m, w, l, 3, d, o, g⟩ ⟨3, n, a, f, x⟩ from (if_neg (by first | decide | (dsimp only; decide))).trans (if_pos rfl)]
    have hs := fun W => rn_late m w l 3 d o g 3 n a f x W hm hf
    generalize rnLate ⟨m, w, l, 3, d, o, g⟩ ⟨3, n, a, f, x⟩ = R at hs ⊢
    obtain ⟨R0, R1, R2, R3, R4, R5, R6⟩ := R
    simp only [rnV] at hs ⊢
    have HS := Lib.hid hs
    clear hs
    go_enter Try.func31, Try.ntmps31
    go_wp2_with fail
    refine (HS.out _).mono ?_
    rintro e w9 ⟨rfl, hg⟩
    have z0 := hg.cell (a := ⟨W.heap.size + 1 + 1, 0, none⟩) (v := .int .i64 0) (by go_simp) (by simp)
    have z1 := hg.cell (a := ⟨W.heap.size + 1 + 1, 1, none⟩) (v := .int .i64 0) (by go_simp) (by simp)
    have z2 := hg.cell (a := ⟨W.heap.size + 1 + 1, 2, none⟩) (v := .int .i64 0) (by go_simp) (by simp)
    have z3 := hg.cell (a := ⟨W.heap.size + 1 + 1, 3, none⟩) (v := .int .i64 0) (by go_simp) (by simp)
    have z4 := hg.cell (a := ⟨W.heap.size + 1 + 1, 4, none⟩) (v := .int .i64 0) (by go_simp) (by simp)
    have z5 := hg.cell (a := ⟨W.heap.size + 1 + 1, 5, none⟩) (v := .int .i64 0) (by go_simp) (by simp)
    have z6 := hg.cell (a := ⟨W.heap.size + 1 + 1, 6, none⟩) (v := .int .i64 0) (by go_simp) (by simp)
    have y0 := grown_frz hg (p := ⟨W.heap.size + 1 + 1, 0, none⟩) (v := .int .i64 0) (by go_simp) (by simp) (x := false) (by go_simp)
    have y1 := grown_frz hg (p := ⟨W.heap.size + 1 + 1, 1, none⟩) (v := .int .i64 0) (by go_simp) (by simp) (x := false) (by go_simp)
    have y2 := grown_frz hg (p := ⟨W.heap.size + 1 + 1, 2, none⟩) (v := .int .i64 0) (by go_simp) (by simp) (x := false) (by go_simp)
    have y3 := grown_frz hg (p := ⟨W.heap.size + 1 + 1, 3, none⟩) (v := .int .i64 0) (by go_simp) (by simp) (x := false) (by go_simp)
    have y4 := grown_frz hg (p := ⟨W.heap.size + 1 + 1, 4, none⟩) (v := .int .i64 0) (by go_simp) (by simp) (x := false) (by go_simp)
    have y5 := grown_frz hg (p := ⟨W.heap.size + 1 + 1, 5, none⟩) (v := .int .i64 0) (by go_simp) (by simp) (x := false) (by go_simp)
    have y6 := grown_frz hg (p := ⟨W.heap.size + 1 + 1, 6, none⟩) (v := .int .i64 0) (by go_simp) (by simp) (x := false) (by go_simp)
    have HG9 := Lib.hid (show W.grownBy w9 none from grownBy_trans (by repeat (first | with_reducible refine gS ?_ (by first | omega | (simp; omega)) _ _ | with_reducible refine gA ?_ _ | with_reducible refine gD ?_ _ | with_reducible refine gd ?_ | with_reducible exact HG2.out | with_reducible exact HG.out | with_reducible exact World.grownBy.refl _ _)) hg)
    clear hg
    go_wp2_with fail
    exact bodyPost_ret (v := .agg #[.int .i64 R0, .int .i64 R1, .int .i64 R2, .int .i64 R3, .int .i64 R4, .int .i64 R5, .int .i64 R6]) (by simp [results, Try.results31, go_sem, z0, z1, z2, z3, z4, z5, z6]) rfl ⟨rfl, by repeat (first | with_reducible refine gS ?_ (by first | omega | (simp; omega)) _ _ | with_reducible exact HG9.out)⟩

end Go.Proofs.Ytklbnpnngfoecaa
