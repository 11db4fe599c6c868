/- Windows: the program's step. -/
import Derived.Test.YtklbnpnngfoecaaRn
import Derived.Test.YtklbnpnngfoecaaBx
import Derived.Deep.RegionWith
import Derived.BigRegion
namespace Go.Proofs.Ytklbnpnngfoecaa
open Go.RowKit

set_option maxRecDepth 100000 in
set_option maxHeartbeats 1000000 in
theorem rn_settled (m w l p d o g : Int) (W : World) (hw : 1 ≤ w ∧ w ≤ 1000000000) : Calls Try.prog 38 #[.agg #[.int .i64 m, .int .i64 w, .int .i64 l, .int .i64 p, .int .i64 d, .int .i64 o, .int .i64 g]] W fun e w' => e = .returned (rnV (rnSet ⟨m, w, l, p, d, o, g⟩)) ∧ W.grownBy w' none := by
  unfold rnSet rnV
  by_cases q : w < l
  · simp only [q, if_true]
    go_enter Try.func38, Try.ntmps38
    go_wp2
    exact bodyPost_ret (v := rnV ⟨m, w, l, 1, d, o, 0⟩) (by simp [results, Try.results38, go_sem, rnV]) rfl ⟨rfl, gA (gA (World.grownBy.refl _ _) _) _⟩
  · simp only [q, if_false]
    obtain ⟨x, hx⟩ : ∃ x, x = w - 1 := ⟨_, rfl⟩
    have h1 : IntKind.i64.wrap (w - 1) = x := by rw [hx]; exact wr (by omega)
    rw [← hx]
    clear hx
    by_cases q1 : g < x
    · rw [if_pos q1]
      have q2 : ¬ x < g := by omega
      have q3 : g ≤ x := by omega
      go_enter Try.func38, Try.ntmps38
      go_wp2
      exact bodyPost_ret (v := rnV ⟨m, w, l, 2, d, o, g⟩) (by simp [results, Try.results38, go_sem, rnV]) rfl ⟨rfl, gA (gA (World.grownBy.refl _ _) _) _⟩
    · rw [if_neg q1]
      by_cases q2 : x < g
      · have q3 : ¬ g ≤ x := by omega
        go_enter Try.func38, Try.ntmps38
        go_wp2
        exact bodyPost_ret (v := rnV ⟨m, w, l, 2, d, o, x⟩) (by simp [results, Try.results38, go_sem, rnV]) rfl ⟨rfl, gA (gA (World.grownBy.refl _ _) _) _⟩
      · obtain rfl : x = g := by omega
        go_enter Try.func38, Try.ntmps38
        go_wp2
        exact bodyPost_ret (v := rnV ⟨m, w, l, 2, d, o, x⟩) (by simp [results, Try.results38, go_sem, rnV]) rfl ⟨rfl, gA (gA (World.grownBy.refl _ _) _) _⟩

set_option maxRecDepth 100000 in
set_option maxHeartbeats 1000000 in
theorem rn_half (m w l p d o g k n a f x : Int) (W : World) (hm : 1 ≤ m ∧ m ≤ 10000) (hf : 0 ≤ f ∧ f ≤ 1000000000) : Calls Try.prog 42 #[.agg #[.int .i64 m, .int .i64 w, .int .i64 l, .int .i64 p, .int .i64 d, .int .i64 o, .int .i64 g], .agg #[.int .i64 k, .int .i64 n, .int .i64 a, .int .i64 f, .int .i64 x]] W fun e w' => e = .returned (.int .i64 (hlf f m)) ∧ W.grownBy w' none := by
  have h1 : IntKind.i64.wrap (f.tdiv 2) = f / 2 := half_i f hf
  obtain ⟨y, hy⟩ : ∃ y, y = f / 2 := ⟨_, rfl⟩
  unfold hlf
  rw [← hy] at h1 ⊢
  clear hy
  by_cases q1 : y < 2 * m
  · have q2 : ¬ 2 * m < y := by omega
    have q3 : y ≤ 2 * m := by omega
    rw [if_pos q1]
    go_enter Try.func42, Try.ntmps42
    go_wp2
    go_quiet ((go_at_call 23; exact Calls.quiet_of_same (rn_least _ _ hm)))
    go_wp2
    all_goals
      go_ret
      exact ⟨rfl, gD (gA (gA (World.grownBy.refl _ _) _) _) _⟩
  · rw [if_neg q1]
    by_cases q2 : 2 * m < y
    · have q3 : ¬ y ≤ 2 * m := by omega
      go_enter Try.func42, Try.ntmps42
      go_wp2
      go_quiet ((go_at_call 23; exact Calls.quiet_of_same (rn_least _ _ hm)))
      go_wp2
      all_goals
        go_ret
        exact ⟨rfl, gD (gA (gA (World.grownBy.refl _ _) _) _) _⟩
    · obtain rfl : y = 2 * m := by omega
      go_enter Try.func42, Try.ntmps42
      go_wp2
      go_quiet ((go_at_call 23; exact Calls.quiet_of_same (rn_least _ _ hm)))
      go_wp2
      all_goals
        go_ret
        exact ⟨rfl, gD (gA (gA (World.grownBy.refl _ _) _) _) _⟩
set_option maxRecDepth 100000 in
set_option maxHeartbeats 2000000 in
theorem rn_late (m w l p d o g k n a f x : Int) (W : World) (hm : 1 ≤ m ∧ m ≤ 10000) (hf : 0 ≤ f ∧ f ≤ 1000000000) : Calls Try.prog 40 #[.agg #[.int .i64 m, .int .i64 w, .int .i64 l, .int .i64 p, .int .i64 d, .int .i64 o, .int .i64 g], .agg #[.int .i64 k, .int .i64 n, .int .i64 a, .int .i64 f, .int .i64 x]] W fun e w' => e = .returned (rnV (rnLate ⟨m, w, l, p, d, o, g⟩ ⟨k, n, a, f, x⟩)) ∧ W.grownBy w' none := by
  have hs := fun W => rn_settled m m (hlf f m) p 0 x 0 W (by omega)
  unfold rnLate
  dsimp only at hs ⊢
  generalize rnSet ⟨m, m, hlf f m, p, 0, x, 0⟩ = R at hs ⊢
  obtain ⟨R0, R1, R2, R3, R4, R5, R6⟩ := R
  simp only [rnV] at hs ⊢
  have HS := Lib.hid hs
  clear hs
  go_enter Try.func40, Try.ntmps40
  go_wp2_with fail
  refine (rn_half _ _ _ _ _ _ _ _ _ _ _ _ _ hm hf).mono ?_
  rintro e w1 ⟨rfl, hg⟩
  have HA := Lib.hid (((Bx.new W 25 #[.int .i64 m, .int .i64 w, .int .i64 l, .int .i64 p, .int .i64 d, .int .i64 o, .int .i64 g]).alloc (.cells #[.int .i64 k, .int .i64 n, .int .i64 a, .int .i64 f, .int .i64 x] 41) |>.alloc (.cells #[.int .i64 0, .int .i64 0, .int .i64 0, .int .i64 0, .int .i64 0, .int .i64 0, .int .i64 0] 25)).keep hg)
  have he := ((Bx.new (W.alloc (.cells #[.int .i64 m, .int .i64 w, .int .i64 l, .int .i64 p, .int .i64 d, .int .i64 o, .int .i64 g] 25)) 41 #[.int .i64 k, .int .i64 n, .int .i64 a, .int .i64 f, .int .i64 x]).alloc (.cells #[.int .i64 0, .int .i64 0, .int .i64 0, .int .i64 0, .int .i64 0, .int .i64 0, .int .i64 0] 25)).keep hg
  have hz := (Bx.new ((W.alloc (.cells #[.int .i64 m, .int .i64 w, .int .i64 l, .int .i64 p, .int .i64 d, .int .i64 o, .int .i64 g] 25)).alloc (.cells #[.int .i64 k, .int .i64 n, .int .i64 a, .int .i64 f, .int .i64 x] 41)) 25 #[.int .i64 0, .int .i64 0, .int .i64 0, .int .i64 0, .int .i64 0, .int .i64 0, .int .i64 0]).keep hg
  simp only [World.size_alloc] at he hz
  have HE := Lib.hid he
  have HZ := Lib.hid hz
  clear he hz
  have HG := Lib.hid (grownBy_trans (gA (gA (gA (World.grownBy.refl W none) _) _) _) hg)
  clear hg
  have a0 : w1.cell? ⟨W.heap.size, 0, none⟩ = some (.int .i64 m) := HA.out.c 0 rfl
  have a1 : w1.cell? ⟨W.heap.size, 1, none⟩ = some (.int .i64 w) := HA.out.c 1 rfl
  have a2 : w1.cell? ⟨W.heap.size, 2, none⟩ = some (.int .i64 l) := HA.out.c 2 rfl
  have a3 : w1.cell? ⟨W.heap.size, 3, none⟩ = some (.int .i64 p) := HA.out.c 3 rfl
  have a4 : w1.cell? ⟨W.heap.size, 4, none⟩ = some (.int .i64 d) := HA.out.c 4 rfl
  have a5 : w1.cell? ⟨W.heap.size, 5, none⟩ = some (.int .i64 o) := HA.out.c 5 rfl
  have a6 : w1.cell? ⟨W.heap.size, 6, none⟩ = some (.int .i64 g) := HA.out.c 6 rfl
  have af0 : w1.frozen? ⟨W.heap.size, 0, none⟩ = false := HA.out.f 0
  have af1 : w1.frozen? ⟨W.heap.size, 1, none⟩ = false := HA.out.f 1
  have af2 : w1.frozen? ⟨W.heap.size, 2, none⟩ = false := HA.out.f 2
  have af3 : w1.frozen? ⟨W.heap.size, 3, none⟩ = false := HA.out.f 3
  have af4 : w1.frozen? ⟨W.heap.size, 4, none⟩ = false := HA.out.f 4
  have af5 : w1.frozen? ⟨W.heap.size, 5, none⟩ = false := HA.out.f 5
  have af6 : w1.frozen? ⟨W.heap.size, 6, none⟩ = false := HA.out.f 6
  go_wp2_with fail
  clear a0 af0 a1 af1 a2 af2 a3 af3 a4 af4 a5 af5 a6 af6
  obtain ⟨w2, hw2⟩ : ∃ w2, w2 = w1.setCell ⟨W.heap.size, 2, none⟩ (.int .i64 (hlf f m)) := ⟨_, rfl⟩
  rw [← hw2]
  have HA2 := Lib.hid (show Bx w2 W.heap.size 25 #[.int .i64 m, .int .i64 w, .int .i64 (hlf f m), .int .i64 p, .int .i64 d, .int .i64 o, .int .i64 g] from hw2 ▸ HA.out.s 2 _)
  have HE2 := Lib.hid (show Bx w2 (W.heap.size + 1) 41 #[.int .i64 k, .int .i64 n, .int .i64 a, .int .i64 f, .int .i64 x] from hw2 ▸ HE.out.other (B' := W.heap.size) (by omega) 2 _)
  have HZ2 := Lib.hid (show Bx w2 (W.heap.size + 1 + 1) 25 #[.int .i64 0, .int .i64 0, .int .i64 0, .int .i64 0, .int .i64 0, .int .i64 0, .int .i64 0] from hw2 ▸ HZ.out.other (B' := W.heap.size) (by omega) 2 _)
  have HG2 := Lib.hid (show W.grownBy w2 none from hw2 ▸ gS HG.out (Nat.le_refl _) _ _)
  clear hw2 HA HE HZ HG
  have a0 : w2.cell? ⟨W.heap.size, 0, none⟩ = some (.int .i64 m) := HA2.out.c 0 rfl
  have a1 : w2.cell? ⟨W.heap.size, 1, none⟩ = some (.int .i64 w) := HA2.out.c 1 rfl
  have a2 : w2.cell? ⟨W.heap.size, 2, none⟩ = some (.int .i64 (hlf f m)) := HA2.out.c 2 rfl
  have a3 : w2.cell? ⟨W.heap.size, 3, none⟩ = some (.int .i64 p) := HA2.out.c 3 rfl
  have a4 : w2.cell? ⟨W.heap.size, 4, none⟩ = some (.int .i64 d) := HA2.out.c 4 rfl
  have a5 : w2.cell? ⟨W.heap.size, 5, none⟩ = some (.int .i64 o) := HA2.out.c 5 rfl
  have a6 : w2.cell? ⟨W.heap.size, 6, none⟩ = some (.int .i64 g) := HA2.out.c 6 rfl
  have af0 : w2.frozen? ⟨W.heap.size, 0, none⟩ = false := HA2.out.f 0
  have af1 : w2.frozen? ⟨W.heap.size, 1, none⟩ = false := HA2.out.f 1
  have af2 : w2.frozen? ⟨W.heap.size, 2, none⟩ = false := HA2.out.f 2
  have af3 : w2.frozen? ⟨W.heap.size, 3, none⟩ = false := HA2.out.f 3
  have af4 : w2.frozen? ⟨W.heap.size, 4, none⟩ = false := HA2.out.f 4
  have af5 : w2.frozen? ⟨W.heap.size, 5, none⟩ = false := HA2.out.f 5
  have af6 : w2.frozen? ⟨W.heap.size, 6, none⟩ = false := HA2.out.f 6
  have e0 : w2.cell? ⟨W.heap.size + 1, 0, none⟩ = some (.int .i64 k) := HE2.out.c 0 rfl
  have e1 : w2.cell? ⟨W.heap.size + 1, 1, none⟩ = some (.int .i64 n) := HE2.out.c 1 rfl
  have e2 : w2.cell? ⟨W.heap.size + 1, 2, none⟩ = some (.int .i64 a) := HE2.out.c 2 rfl
  have e3 : w2.cell? ⟨W.heap.size + 1, 3, none⟩ = some (.int .i64 f) := HE2.out.c 3 rfl
  have e4 : w2.cell? ⟨W.heap.size + 1, 4, none⟩ = some (.int .i64 x) := HE2.out.c 4 rfl
  go_region
  go_wp2_with fail
  have q0 : w2.cell? ⟨W.heap.size + 1 + 1, 0, none⟩ = some (.int .i64 0) := HZ2.out.c 0 rfl
  have q1 : w2.cell? ⟨W.heap.size + 1 + 1, 1, none⟩ = some (.int .i64 0) := HZ2.out.c 1 rfl
  have q2 : w2.cell? ⟨W.heap.size + 1 + 1, 2, none⟩ = some (.int .i64 0) := HZ2.out.c 2 rfl
  have q3 : w2.cell? ⟨W.heap.size + 1 + 1, 3, none⟩ = some (.int .i64 0) := HZ2.out.c 3 rfl
  have q4 : w2.cell? ⟨W.heap.size + 1 + 1, 4, none⟩ = some (.int .i64 0) := HZ2.out.c 4 rfl
  have q5 : w2.cell? ⟨W.heap.size + 1 + 1, 5, none⟩ = some (.int .i64 0) := HZ2.out.c 5 rfl
  have q6 : w2.cell? ⟨W.heap.size + 1 + 1, 6, none⟩ = some (.int .i64 0) := HZ2.out.c 6 rfl
  have qf0 : w2.frozen? ⟨W.heap.size + 1 + 1, 0, none⟩ = false := HZ2.out.f 0
  have qf1 : w2.frozen? ⟨W.heap.size + 1 + 1, 1, none⟩ = false := HZ2.out.f 1
  have qf2 : w2.frozen? ⟨W.heap.size + 1 + 1, 2, none⟩ = false := HZ2.out.f 2
  have qf3 : w2.frozen? ⟨W.heap.size + 1 + 1, 3, none⟩ = false := HZ2.out.f 3
  have qf4 : w2.frozen? ⟨W.heap.size + 1 + 1, 4, none⟩ = false := HZ2.out.f 4
  have qf5 : w2.frozen? ⟨W.heap.size + 1 + 1, 5, none⟩ = false := HZ2.out.f 5
  have qf6 : w2.frozen? ⟨W.heap.size + 1 + 1, 6, none⟩ = false := HZ2.out.f 6
  refine (HS.out _).mono ?_
  rintro e w9 ⟨rfl, hg⟩
  have z0 := hg.cell (a := ⟨W.heap.size + 1 + 1, 0, none⟩) (v := .int .i64 0) (by go_simp) (by simp)
  have z1 := hg.cell (a := ⟨W.heap.size + 1 + 1, 1, none⟩) (v := .int .i64 0) (by go_simp) (by simp)
  have z2 := hg.cell (a := ⟨W.heap.size + 1 + 1, 2, none⟩) (v := .int .i64 0) (by go_simp) (by simp)
  have z3 := hg.cell (a := ⟨W.heap.size + 1 + 1, 3, none⟩) (v := .int .i64 0) (by go_simp) (by simp)
  have z4 := hg.cell (a := ⟨W.heap.size + 1 + 1, 4, none⟩) (v := .int .i64 0) (by go_simp) (by simp)
  have z5 := hg.cell (a := ⟨W.heap.size + 1 + 1, 5, none⟩) (v := .int .i64 0) (by go_simp) (by simp)
  have z6 := hg.cell (a := ⟨W.heap.size + 1 + 1, 6, none⟩) (v := .int .i64 0) (by go_simp) (by simp)
  have y0 := grown_frz hg (p := ⟨W.heap.size + 1 + 1, 0, none⟩) (v := .int .i64 0) (by go_simp) (by simp) (x := false) (by go_simp)
  have y1 := grown_frz hg (p := ⟨W.heap.size + 1 + 1, 1, none⟩) (v := .int .i64 0) (by go_simp) (by simp) (x := false) (by go_simp)
  have y2 := grown_frz hg (p := ⟨W.heap.size + 1 + 1, 2, none⟩) (v := .int .i64 0) (by go_simp) (by simp) (x := false) (by go_simp)
  have y3 := grown_frz hg (p := ⟨W.heap.size + 1 + 1, 3, none⟩) (v := .int .i64 0) (by go_simp) (by simp) (x := false) (by go_simp)
  have y4 := grown_frz hg (p := ⟨W.heap.size + 1 + 1, 4, none⟩) (v := .int .i64 0) (by go_simp) (by simp) (x := false) (by go_simp)
  have y5 := grown_frz hg (p := ⟨W.heap.size + 1 + 1, 5, none⟩) (v := .int .i64 0) (by go_simp) (by simp) (x := false) (by go_simp)
  have y6 := grown_frz hg (p := ⟨W.heap.size + 1 + 1, 6, none⟩) (v := .int .i64 0) (by go_simp) (by simp) (x := false) (by go_simp)
  have HG9 := Lib.hid (show W.grownBy w9 none from grownBy_trans (by repeat (first | with_reducible refine gS ?_ (by first | omega | (simp; omega)) _ _ | with_reducible refine gA ?_ _ | with_reducible refine gD ?_ _ | with_reducible refine gd ?_ | with_reducible exact HG2.out | with_reducible exact HG.out | with_reducible exact World.grownBy.refl _ _)) hg)
  clear hg
  go_wp2_with fail
  exact bodyPost_ret (v := .agg #[.int .i64 R0, .int .i64 R1, .int .i64 R2, .int .i64 R3, .int .i64 R4, .int .i64 R5, .int .i64 R6]) (by simp [results, Try.results40, go_sem, z0, z1, z2, z3, z4, z5, z6]) rfl ⟨rfl, by repeat (first | with_reducible refine gS ?_ (by first | omega | (simp; omega)) _ _ | with_reducible exact HG9.out)⟩
set_option maxRecDepth 100000 in
set_option maxHeartbeats 2000000 in
theorem rn_no (m w l p d o g k n a f x : Int) (W : World) (hm : 1 ≤ m ∧ m ≤ 10000) (hf : 0 ≤ f ∧ f ≤ 1000000000) (hd : 0 ≤ d ∧ d ≤ 2) (hk : k = 2 ∨ k = 3) : Calls Try.prog 36 #[.agg #[.int .i64 m, .int .i64 w, .int .i64 l, .int .i64 p, .int .i64 d, .int .i64 o, .int .i64 g], .agg #[.int .i64 k, .int .i64 n, .int .i64 a, .int .i64 f, .int .i64 x]] W fun e w' => e = .returned (rnV (if k = 3 then rnLate ⟨m, w, l, p, d, o, g⟩ ⟨k, n, a, f, x⟩ else rnNo ⟨m, w, l, p, d, o, g⟩ ⟨k, n, a, f, x⟩)) ∧ W.grownBy w' none := by
  rcases hk with rfl | rfl
  · by_cases q : d < 2
    · have h1 : IntKind.i64.wrap (d + 1) = d + 1 := wr (by omega)
      have h2 : d + 1 < 3 := by omega
      rw [show (if (2 : Int) = 3 then rnLate ⟨m, w, l, p, d, o, g⟩ ⟨2, n, a, f, x⟩ else rnNo ⟨m, w, l, p, d, o, g⟩ ⟨2, n, a, f, x⟩) = ⟨m, w, l, p, d + 1, o, g⟩ from (if_neg (by first | decide | (dsimp only; decide))).trans (if_pos q)]
      simp only [rnV]
      go_enter Try.func36, Try.ntmps36
      go_wp2
      exact bodyPost_ret (v := .agg #[.int .i64 m, .int .i64 w, .int .i64 l, .int .i64 p, .int .i64 (d + 1), .int .i64 o, .int .i64 g]) (by simp [results, Try.results36, go_sem]) rfl ⟨rfl, by repeat (first | with_reducible refine gS ?_ (by first | omega | (simp; omega)) _ _ | with_reducible refine gA ?_ _ | with_reducible refine gD ?_ _ | with_reducible refine gd ?_ | with_reducible exact World.grownBy.refl _ _)⟩
    · obtain rfl : d = 2 := by omega
      rw [show (if (2 : Int) = 3 then rnLate ⟨m, w, l, p, 2, o, g⟩ ⟨2, n, a, f, x⟩ else rnNo ⟨m, w, l, p, 2, o, g⟩ ⟨2, n, a, f, x⟩) = ⟨m, hlf f m + 3 * m, hlf f m, 3, 3, x, 0⟩ from (if_neg (by first | decide | (dsimp only; decide))).trans (if_neg (by first | decide | (dsimp only; decide)))]
      have hh := fun W => rn_half m w l p 3 o g 2 n a f x W hm hf
      have hb : 0 ≤ hlf f m ∧ hlf f m ≤ 1000000000 := by unfold hlf; split <;> omega
      generalize hlf f m = H at hh hb ⊢
      have h3 : IntKind.i64.wrap (3 * m) = 3 * m := wr (by omega)
      have h4 : IntKind.i64.wrap (H + 3 * m) = H + 3 * m := wr (by omega)
      have HH := Lib.hid hh
      clear hh
      simp only [rnV]
      go_enter Try.func36, Try.ntmps36
      go_wp2_with fail
      refine (HH.out _).mono ?_
      rintro e w1 ⟨rfl, hg⟩
      have HA := Lib.hid (((Bx.new W 25 #[.int .i64 m, .int .i64 w, .int .i64 l, .int .i64 p, .int .i64 3, .int .i64 o, .int .i64 g]).alloc (.cells #[.int .i64 2, .int .i64 n, .int .i64 a, .int .i64 f, .int .i64 x] 41) |>.alloc (.cells #[.int .i64 0, .int .i64 0, .int .i64 0, .int .i64 0, .int .i64 0, .int .i64 0, .int .i64 0] 25)).keep hg)
      have he := ((Bx.new (W.alloc (.cells #[.int .i64 m, .int .i64 w, .int .i64 l, .int .i64 p, .int .i64 3, .int .i64 o, .int .i64 g] 25)) 41 #[.int .i64 2, .int .i64 n, .int .i64 a, .int .i64 f, .int .i64 x]).alloc (.cells #[.int .i64 0, .int .i64 0, .int .i64 0, .int .i64 0, .int .i64 0, .int .i64 0, .int .i64 0] 25)).keep hg
      have hz := (Bx.new ((W.alloc (.cells #[.int .i64 m, .int .i64 w, .int .i64 l, .int .i64 p, .int .i64 3, .int .i64 o, .int .i64 g] 25)).alloc (.cells #[.int .i64 2, .int .i64 n, .int .i64 a, .int .i64 f, .int .i64 x] 41)) 25 #[.int .i64 0, .int .i64 0, .int .i64 0, .int .i64 0, .int .i64 0, .int .i64 0, .int .i64 0]).keep hg
      simp only [World.size_alloc] at he hz
      have HE := Lib.hid he
      have HZ := Lib.hid hz
      clear he hz
      have HG := Lib.hid (grownBy_trans (gA (gA (gA (World.grownBy.refl W none) _) _) _) hg)
      clear hg
      have a0 : w1.cell? ⟨W.heap.size, 0, none⟩ = some (.int .i64 m) := HA.out.c 0 rfl
      have a1 : w1.cell? ⟨W.heap.size, 1, none⟩ = some (.int .i64 w) := HA.out.c 1 rfl
      have a2 : w1.cell? ⟨W.heap.size, 2, none⟩ = some (.int .i64 l) := HA.out.c 2 rfl
      have a3 : w1.cell? ⟨W.heap.size, 3, none⟩ = some (.int .i64 p) := HA.out.c 3 rfl
      have a4 : w1.cell? ⟨W.heap.size, 4, none⟩ = some (.int .i64 3) := HA.out.c 4 rfl
      have a5 : w1.cell? ⟨W.heap.size, 5, none⟩ = some (.int .i64 o) := HA.out.c 5 rfl
      have a6 : w1.cell? ⟨W.heap.size, 6, none⟩ = some (.int .i64 g) := HA.out.c 6 rfl
      have af0 : w1.frozen? ⟨W.heap.size, 0, none⟩ = false := HA.out.f 0
      have af1 : w1.frozen? ⟨W.heap.size, 1, none⟩ = false := HA.out.f 1
      have af2 : w1.frozen? ⟨W.heap.size, 2, none⟩ = false := HA.out.f 2
      have af3 : w1.frozen? ⟨W.heap.size, 3, none⟩ = false := HA.out.f 3
      have af4 : w1.frozen? ⟨W.heap.size, 4, none⟩ = false := HA.out.f 4
      have af5 : w1.frozen? ⟨W.heap.size, 5, none⟩ = false := HA.out.f 5
      have af6 : w1.frozen? ⟨W.heap.size, 6, none⟩ = false := HA.out.f 6
      go_wp2_with fail
      clear a0 af0 a1 af1 a2 af2 a3 af3 a4 af4 a5 af5 a6 af6
      obtain ⟨w2, hw2⟩ : ∃ w2, w2 = (w1.setCell ⟨W.heap.size, 2, none⟩ (.int .i64 H)).setCell ⟨W.heap.size, 1, none⟩ (.int .i64 (H + 3 * m)) := ⟨_, rfl⟩
      rw [← hw2]
      have HA2 := Lib.hid (show Bx w2 W.heap.size 25 #[.int .i64 m, .int .i64 (H + 3 * m), .int .i64 H, .int .i64 p, .int .i64 3, .int .i64 o, .int .i64 g] from hw2 ▸ (HA.out.s 2 _).s 1 _)
      have HE2 := Lib.hid (show Bx w2 (W.heap.size + 1) 41 #[.int .i64 2, .int .i64 n, .int .i64 a, .int .i64 f, .int .i64 x] from hw2 ▸ (HE.out.other (B' := W.heap.size) (by omega) 2 _).other (B' := W.heap.size) (by omega) 1 _)
      have HZ2 := Lib.hid (show Bx w2 (W.heap.size + 1 + 1) 25 #[.int .i64 0, .int .i64 0, .int .i64 0, .int .i64 0, .int .i64 0, .int .i64 0, .int .i64 0] from hw2 ▸ (HZ.out.other (B' := W.heap.size) (by omega) 2 _).other (B' := W.heap.size) (by omega) 1 _)
      have HG2 := Lib.hid (show W.grownBy w2 none from hw2 ▸ gS (gS HG.out (Nat.le_refl _) _ _) (Nat.le_refl _) _ _)
      clear hw2 HA HE HZ HG
      have a0 : w2.cell? ⟨W.heap.size, 0, none⟩ = some (.int .i64 m) := HA2.out.c 0 rfl
      have a1 : w2.cell? ⟨W.heap.size, 1, none⟩ = some (.int .i64 (H + 3 * m)) := HA2.out.c 1 rfl
      have a2 : w2.cell? ⟨W.heap.size, 2, none⟩ = some (.int .i64 H) := HA2.out.c 2 rfl
      have a3 : w2.cell? ⟨W.heap.size, 3, none⟩ = some (.int .i64 p) := HA2.out.c 3 rfl
      have a4 : w2.cell? ⟨W.heap.size, 4, none⟩ = some (.int .i64 3) := HA2.out.c 4 rfl
      have a5 : w2.cell? ⟨W.heap.size, 5, none⟩ = some (.int .i64 o) := HA2.out.c 5 rfl
      have a6 : w2.cell? ⟨W.heap.size, 6, none⟩ = some (.int .i64 g) := HA2.out.c 6 rfl
      have af0 : w2.frozen? ⟨W.heap.size, 0, none⟩ = false := HA2.out.f 0
      have af1 : w2.frozen? ⟨W.heap.size, 1, none⟩ = false := HA2.out.f 1
      have af2 : w2.frozen? ⟨W.heap.size, 2, none⟩ = false := HA2.out.f 2
      have af3 : w2.frozen? ⟨W.heap.size, 3, none⟩ = false := HA2.out.f 3
      have af4 : w2.frozen? ⟨W.heap.size, 4, none⟩ = false := HA2.out.f 4
      have af5 : w2.frozen? ⟨W.heap.size, 5, none⟩ = false := HA2.out.f 5
      have af6 : w2.frozen? ⟨W.heap.size, 6, none⟩ = false := HA2.out.f 6
      have e0 : w2.cell? ⟨W.heap.size + 1, 0, none⟩ = some (.int .i64 2) := HE2.out.c 0 rfl
      have e1 : w2.cell? ⟨W.heap.size + 1, 1, none⟩ = some (.int .i64 n) := HE2.out.c 1 rfl
      have e2 : w2.cell? ⟨W.heap.size + 1, 2, none⟩ = some (.int .i64 a) := HE2.out.c 2 rfl
      have e3 : w2.cell? ⟨W.heap.size + 1, 3, none⟩ = some (.int .i64 f) := HE2.out.c 3 rfl
      have e4 : w2.cell? ⟨W.heap.size + 1, 4, none⟩ = some (.int .i64 x) := HE2.out.c 4 rfl
      have q0 : w2.cell? ⟨W.heap.size + 1 + 1, 0, none⟩ = some (.int .i64 0) := HZ2.out.c 0 rfl
      have q1 : w2.cell? ⟨W.heap.size + 1 + 1, 1, none⟩ = some (.int .i64 0) := HZ2.out.c 1 rfl
      have q2 : w2.cell? ⟨W.heap.size + 1 + 1, 2, none⟩ = some (.int .i64 0) := HZ2.out.c 2 rfl
      have q3 : w2.cell? ⟨W.heap.size + 1 + 1, 3, none⟩ = some (.int .i64 0) := HZ2.out.c 3 rfl
      have q4 : w2.cell? ⟨W.heap.size + 1 + 1, 4, none⟩ = some (.int .i64 0) := HZ2.out.c 4 rfl
      have q5 : w2.cell? ⟨W.heap.size + 1 + 1, 5, none⟩ = some (.int .i64 0) := HZ2.out.c 5 rfl
      have q6 : w2.cell? ⟨W.heap.size + 1 + 1, 6, none⟩ = some (.int .i64 0) := HZ2.out.c 6 rfl
      have qf0 : w2.frozen? ⟨W.heap.size + 1 + 1, 0, none⟩ = false := HZ2.out.f 0
      have qf1 : w2.frozen? ⟨W.heap.size + 1 + 1, 1, none⟩ = false := HZ2.out.f 1
      have qf2 : w2.frozen? ⟨W.heap.size + 1 + 1, 2, none⟩ = false := HZ2.out.f 2
      have qf3 : w2.frozen? ⟨W.heap.size + 1 + 1, 3, none⟩ = false := HZ2.out.f 3
      have qf4 : w2.frozen? ⟨W.heap.size + 1 + 1, 4, none⟩ = false := HZ2.out.f 4
      have qf5 : w2.frozen? ⟨W.heap.size + 1 + 1, 5, none⟩ = false := HZ2.out.f 5
      have qf6 : w2.frozen? ⟨W.heap.size + 1 + 1, 6, none⟩ = false := HZ2.out.f 6
      go_region
      go_wp2_with fail
      exact bodyPost_ret (v := .agg #[.int .i64 m, .int .i64 (H + 3 * m), .int .i64 H, .int .i64 3, .int .i64 3, .int .i64 x, .int .i64 0]) (by simp [results, Try.results36, go_sem, q0, q1, q2, q3, q4, q5, q6]) rfl ⟨rfl, by repeat (first | with_reducible refine gS ?_ (by first | omega | (simp; omega)) _ _ | with_reducible refine gA ?_ _ | with_reducible refine gD ?_ _ | with_reducible refine gd ?_ | with_reducible exact HG2.out | with_reducible exact HG.out | with_reducible exact World.grownBy.refl _ _)⟩
  · rw [show (if (3 : Int) = 3 then rnLate ⟨m, w, l, p, d, o, g⟩ ⟨3, n, a, f, x⟩ else rnNo ⟨m, w, l, p, d, o, g⟩ ⟨3, n, a, f, x⟩) = rnLate ⟨m, w, l, p, d, o, g⟩ ⟨3, n, a, f, x⟩ from if_pos rfl]
    have hs := fun W => rn_late m w l p d o g 3 n a f x W hm hf
    generalize rnLate ⟨m, w, l, p, d, o, g⟩ ⟨3, n, a, f, x⟩ = R at hs ⊢
    obtain ⟨R0, R1, R2, R3, R4, R5, R6⟩ := R
    simp only [rnV] at hs ⊢
    have HS := Lib.hid hs
    clear hs
    go_enter Try.func36, Try.ntmps36
    go_wp2_with fail
    refine (HS.out _).mono ?_
    rintro e w9 ⟨rfl, hg⟩
    have z0 := hg.cell (a := ⟨W.heap.size + 1 + 1, 0, none⟩) (v := .int .i64 0) (by go_simp) (by simp)
    have z1 := hg.cell (a := ⟨W.heap.size + 1 + 1, 1, none⟩) (v := .int .i64 0) (by go_simp) (by simp)
    have z2 := hg.cell (a := ⟨W.heap.size + 1 + 1, 2, none⟩) (v := .int .i64 0) (by go_simp) (by simp)
    have z3 := hg.cell (a := ⟨W.heap.size + 1 + 1, 3, none⟩) (v := .int .i64 0) (by go_simp) (by simp)
    have z4 := hg.cell (a := ⟨W.heap.size + 1 + 1, 4, none⟩) (v := .int .i64 0) (by go_simp) (by simp)
    have z5 := hg.cell (a := ⟨W.heap.size + 1 + 1, 5, none⟩) (v := .int .i64 0) (by go_simp) (by simp)
    have z6 := hg.cell (a := ⟨W.heap.size + 1 + 1, 6, none⟩) (v := .int .i64 0) (by go_simp) (by simp)
    have y0 := grown_frz hg (p := ⟨W.heap.size + 1 + 1, 0, none⟩) (v := .int .i64 0) (by go_simp) (by simp) (x := false) (by go_simp)
    have y1 := grown_frz hg (p := ⟨W.heap.size + 1 + 1, 1, none⟩) (v := .int .i64 0) (by go_simp) (by simp) (x := false) (by go_simp)
    have y2 := grown_frz hg (p := ⟨W.heap.size + 1 + 1, 2, none⟩) (v := .int .i64 0) (by go_simp) (by simp) (x := false) (by go_simp)
    have y3 := grown_frz hg (p := ⟨W.heap.size + 1 + 1, 3, none⟩) (v := .int .i64 0) (by go_simp) (by simp) (x := false) (by go_simp)
    have y4 := grown_frz hg (p := ⟨W.heap.size + 1 + 1, 4, none⟩) (v := .int .i64 0) (by go_simp) (by simp) (x := false) (by go_simp)
    have y5 := grown_frz hg (p := ⟨W.heap.size + 1 + 1, 5, none⟩) (v := .int .i64 0) (by go_simp) (by simp) (x := false) (by go_simp)
    have y6 := grown_frz hg (p := ⟨W.heap.size + 1 + 1, 6, none⟩) (v := .int .i64 0) (by go_simp) (by simp) (x := false) (by go_simp)
    have HG9 := Lib.hid (show W.grownBy w9 none from grownBy_trans (by repeat (first | with_reducible refine gS ?_ (by first | omega | (simp; omega)) _ _ | with_reducible refine gA ?_ _ | with_reducible refine gD ?_ _ | with_reducible refine gd ?_ | with_reducible exact HG2.out | with_reducible exact HG.out | with_reducible exact World.grownBy.refl _ _)) hg)
    clear hg
    go_wp2_with fail
    exact bodyPost_ret (v := .agg #[.int .i64 R0, .int .i64 R1, .int .i64 R2, .int .i64 R3, .int .i64 R4, .int .i64 R5, .int .i64 R6]) (by simp [results, Try.results36, go_sem, z0, z1, z2, z3, z4, z5, z6]) rfl ⟨rfl, by repeat (first | with_reducible refine gS ?_ (by first | omega | (simp; omega)) _ _ | with_reducible exact HG9.out)⟩

end Go.Proofs.Ytklbnpnngfoecaa
