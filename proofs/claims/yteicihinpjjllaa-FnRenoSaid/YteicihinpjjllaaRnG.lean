/- Windows: the drawings of arguments. -/
import Derived.Test.YteicihinpjjllaaRnF
import Derived.Test.YteicihinpjjllaaDraw
namespace Go.Proofs.Yteicihinpjjllaa
open Go.RowKit

def SkPost (w : World) (e : Ending) (w' : World) : Prop :=
  ∃ m y l p d o g : Int, e = .returned (.agg #[.int .i64 m, .int .i64 y, .int .i64 l, .int .i64 p, .int .i64 d, .int .i64 o, .int .i64 g]) ∧ w.grownBy w' none
def StPost (w : World) (e : Ending) (w' : World) : Prop :=
  ∃ m y l p d o g k n1 a1 f x : Int, e = .returned (.tuple #[.agg #[.int .i64 m, .int .i64 y, .int .i64 l, .int .i64 p, .int .i64 d, .int .i64 o, .int .i64 g], .agg #[.int .i64 k, .int .i64 n1, .int .i64 a1, .int .i64 f, .int .i64 x]]) ∧ w.grownBy w' none

set_option maxRecDepth 100000 in
set_option maxHeartbeats 4000000 in
theorem draw_ok (a : Option Addr) (n c : Nat) (w : World) (h : CodeIn w a n) : Calls Try.prog 16 #[.slice a n c] w (SkPost w) := by
  have H := Lib.hid h
  clear h
  go_enter Try.func16, Try.ntmps16
  go_wp2_with fail
  refine (open_any _ _ _ _ (H.out.kept (World.grownBy_alloc _ _ _))).mono ?_
  rintro e w1 ⟨rfl, hg, hr⟩
  simp only [World.size_alloc] at hr
  have H1 := Lib.hid (And.intro (grownBy_trans (World.grownBy_alloc _ _ _) hg) (And.intro hr ((Bx.new w 25 #[.int .i64 0, .int .i64 0, .int .i64 0, .int .i64 0, .int .i64 0, .int .i64 0, .int .i64 0]).keep hg)))
  clear hg hr
  go_wp2_with fail
  refine (reno_draw _ _ H1.out.2.1).mono ?_
  rintro e w2 ⟨m, y, l, p, d, o, g, rfl, hg, hr⟩
  have HG := Lib.hid (grownBy_new H1.out.1 hg (by omega))
  have HA := Lib.hid (H1.out.2.2.kept hg (by first | (simp; done) | (simp; omega)))
  clear hg hr
  have z0 : w2.cell? ⟨w.heap.size, 0, none⟩ = some (.int .i64 0) := HA.out.c 0 rfl
  have z1 : w2.cell? ⟨w.heap.size, 1, none⟩ = some (.int .i64 0) := HA.out.c 1 rfl
  have z2 : w2.cell? ⟨w.heap.size, 2, none⟩ = some (.int .i64 0) := HA.out.c 2 rfl
  have z3 : w2.cell? ⟨w.heap.size, 3, none⟩ = some (.int .i64 0) := HA.out.c 3 rfl
  have z4 : w2.cell? ⟨w.heap.size, 4, none⟩ = some (.int .i64 0) := HA.out.c 4 rfl
  have z5 : w2.cell? ⟨w.heap.size, 5, none⟩ = some (.int .i64 0) := HA.out.c 5 rfl
  have z6 : w2.cell? ⟨w.heap.size, 6, none⟩ = some (.int .i64 0) := HA.out.c 6 rfl
  have zf0 : w2.frozen? ⟨w.heap.size, 0, none⟩ = false := HA.out.f 0
  have zf1 : w2.frozen? ⟨w.heap.size, 1, none⟩ = false := HA.out.f 1
  have zf2 : w2.frozen? ⟨w.heap.size, 2, none⟩ = false := HA.out.f 2
  have zf3 : w2.frozen? ⟨w.heap.size, 3, none⟩ = false := HA.out.f 3
  have zf4 : w2.frozen? ⟨w.heap.size, 4, none⟩ = false := HA.out.f 4
  have zf5 : w2.frozen? ⟨w.heap.size, 5, none⟩ = false := HA.out.f 5
  have zf6 : w2.frozen? ⟨w.heap.size, 6, none⟩ = false := HA.out.f 6
  go_wp2_with fail
  exact bodyPost_ret (v := .agg #[.int .i64 m, .int .i64 y, .int .i64 l, .int .i64 p, .int .i64 d, .int .i64 o, .int .i64 g]) (by simp [results, Try.results16, go_sem, z0, z1, z2, z3, z4, z5, z6]) rfl ⟨m, y, l, p, d, o, g, rfl, by repeat (first | with_reducible refine gS ?_ (by first | omega | (simp; omega)) _ _ | with_reducible exact HG.out)⟩

set_option maxRecDepth 100000 in
set_option maxHeartbeats 4000000 in
theorem draw_step (a : Option Addr) (n c : Nat) (w : World) (h : CodeIn w a n) : Calls Try.prog 13 #[.slice a n c] w (StPost w) := by
  have H := Lib.hid h
  clear h
  go_enter Try.func13, Try.ntmps13
  go_wp2_with fail
  refine (open_any _ _ _ _ (H.out.kept (grownBy_trans (World.grownBy_alloc _ _ _) (World.grownBy_alloc _ _ _)))).mono ?_
  rintro e w1 ⟨rfl, hg, hr⟩
  have hb := (Bx.new (w.alloc (.cells #[.int .i64 0, .int .i64 0, .int .i64 0, .int .i64 0, .int .i64 0, .int .i64 0, .int .i64 0] 25)) 27 #[.int .i64 0, .int .i64 0, .int .i64 0, .int .i64 0, .int .i64 0]).keep hg
  simp only [World.size_alloc] at hr hb
  have H1 := Lib.hid (And.intro (grownBy_trans (grownBy_trans (World.grownBy_alloc _ _ _) (World.grownBy_alloc _ _ _)) hg) (And.intro hr (And.intro (((Bx.new w 25 #[.int .i64 0, .int .i64 0, .int .i64 0, .int .i64 0, .int .i64 0, .int .i64 0, .int .i64 0]).alloc (.cells #[.int .i64 0, .int .i64 0, .int .i64 0, .int .i64 0, .int .i64 0] 27)).keep hg) hb)))
  clear hg hr hb
  go_wp2_with fail
  refine (reno_draw _ _ H1.out.2.1).mono ?_
  rintro e w2 ⟨m, y, l, p, d, o, g, rfl, hg, hr⟩
  have H3 := Lib.hid (show w.grownBy (w2.alloc (.cells #[.int .i64 m, .int .i64 y, .int .i64 l, .int .i64 p, .int .i64 d, .int .i64 o, .int .i64 g] 25)) none ∧ RdOk (w2.alloc (.cells #[.int .i64 m, .int .i64 y, .int .i64 l, .int .i64 p, .int .i64 d, .int .i64 o, .int .i64 g] 25)) (w.heap.size + 1 + 1) ∧ Bx (w2.alloc (.cells #[.int .i64 m, .int .i64 y, .int .i64 l, .int .i64 p, .int .i64 d, .int .i64 o, .int .i64 g] 25)) w.heap.size 25 #[.int .i64 0, .int .i64 0, .int .i64 0, .int .i64 0, .int .i64 0, .int .i64 0, .int .i64 0] ∧ Bx (w2.alloc (.cells #[.int .i64 m, .int .i64 y, .int .i64 l, .int .i64 p, .int .i64 d, .int .i64 o, .int .i64 g] 25)) (w.heap.size + 1) 27 #[.int .i64 0, .int .i64 0, .int .i64 0, .int .i64 0, .int .i64 0] ∧ Bx (w2.alloc (.cells #[.int .i64 m, .int .i64 y, .int .i64 l, .int .i64 p, .int .i64 d, .int .i64 o, .int .i64 g] 25)) w2.heap.size 25 #[.int .i64 m, .int .i64 y, .int .i64 l, .int .i64 p, .int .i64 d, .int .i64 o, .int .i64 g] from ⟨grownBy_trans (grownBy_new H1.out.1 hg (by omega)) (World.grownBy_alloc _ _ _), hr.alloc _, (H1.out.2.2.1.kept hg (by first | (simp; done) | (simp; omega))).alloc _, (H1.out.2.2.2.kept hg (by first | (simp; done) | (simp; omega))).alloc _, Bx.new _ _ _⟩)
  have lt2 := hr.lt
  clear hg hr H1
  go_wp2_with fail
  generalize hw3 : w2.alloc (.cells #[.int .i64 m, .int .i64 y, .int .i64 l, .int .i64 p, .int .i64 d, .int .i64 o, .int .i64 g] 25) = w3 at *
  generalize w2.heap.size = E at *
  clear hw3
  have e0 : w3.cell? ⟨E, 0, none⟩ = some (.int .i64 m) := H3.out.2.2.2.2.c 0 rfl
  have e1 : w3.cell? ⟨E, 1, none⟩ = some (.int .i64 y) := H3.out.2.2.2.2.c 1 rfl
  have e2 : w3.cell? ⟨E, 2, none⟩ = some (.int .i64 l) := H3.out.2.2.2.2.c 2 rfl
  have e3 : w3.cell? ⟨E, 3, none⟩ = some (.int .i64 p) := H3.out.2.2.2.2.c 3 rfl
  have e4 : w3.cell? ⟨E, 4, none⟩ = some (.int .i64 d) := H3.out.2.2.2.2.c 4 rfl
  have e5 : w3.cell? ⟨E, 5, none⟩ = some (.int .i64 o) := H3.out.2.2.2.2.c 5 rfl
  have e6 : w3.cell? ⟨E, 6, none⟩ = some (.int .i64 g) := H3.out.2.2.2.2.c 6 rfl
  go_region_with (first | (go_at_call 33; refine (event_draw _ _ ?_).mono ?_; exact H3.out.2.1; rintro e w4 ⟨k, n1, a1, f, x, rfl, hg, hr⟩; have hg : w3.grownBy w4 (some (w.heap.size + 1 + 1)) := (by first | exact hg | exact grownBy_trans grownBy_drew hg); have HG := Lib.hid (grownBy_new H3.out.1 hg (by omega)); have HA := Lib.hid (H3.out.2.2.1.kept hg (by first | (simp; done) | (simp; omega))); have HB := Lib.hid (H3.out.2.2.2.1.kept hg (by first | (simp; done) | (simp; omega))); have HE := Lib.hid (H3.out.2.2.2.2.kept hg (by simp; omega)); clear hg hr; have z0 : w4.cell? ⟨w.heap.size, 0, none⟩ = some (.int .i64 0) := HA.out.c 0 rfl; have z1 : w4.cell? ⟨w.heap.size, 1, none⟩ = some (.int .i64 0) := HA.out.c 1 rfl; have z2 : w4.cell? ⟨w.heap.size, 2, none⟩ = some (.int .i64 0) := HA.out.c 2 rfl; have z3 : w4.cell? ⟨w.heap.size, 3, none⟩ = some (.int .i64 0) := HA.out.c 3 rfl; have z4 : w4.cell? ⟨w.heap.size, 4, none⟩ = some (.int .i64 0) := HA.out.c 4 rfl; have z5 : w4.cell? ⟨w.heap.size, 5, none⟩ = some (.int .i64 0) := HA.out.c 5 rfl; have z6 : w4.cell? ⟨w.heap.size, 6, none⟩ = some (.int .i64 0) := HA.out.c 6 rfl; have zf0 : w4.frozen? ⟨w.heap.size, 0, none⟩ = false := HA.out.f 0; have zf1 : w4.frozen? ⟨w.heap.size, 1, none⟩ = false := HA.out.f 1; have zf2 : w4.frozen? ⟨w.heap.size, 2, none⟩ = false := HA.out.f 2; have zf3 : w4.frozen? ⟨w.heap.size, 3, none⟩ = false := HA.out.f 3; have zf4 : w4.frozen? ⟨w.heap.size, 4, none⟩ = false := HA.out.f 4; have zf5 : w4.frozen? ⟨w.heap.size, 5, none⟩ = false := HA.out.f 5; have zf6 : w4.frozen? ⟨w.heap.size, 6, none⟩ = false := HA.out.f 6; have q0 : w4.cell? ⟨(w.heap.size + 1), 0, none⟩ = some (.int .i64 0) := HB.out.c 0 rfl; have q1 : w4.cell? ⟨(w.heap.size + 1), 1, none⟩ = some (.int .i64 0) := HB.out.c 1 rfl; have q2 : w4.cell? ⟨(w.heap.size + 1), 2, none⟩ = some (.int .i64 0) := HB.out.c 2 rfl; have q3 : w4.cell? ⟨(w.heap.size + 1), 3, none⟩ = some (.int .i64 0) := HB.out.c 3 rfl; have q4 : w4.cell? ⟨(w.heap.size + 1), 4, none⟩ = some (.int .i64 0) := HB.out.c 4 rfl; have qf0 : w4.frozen? ⟨(w.heap.size + 1), 0, none⟩ = false := HB.out.f 0; have qf1 : w4.frozen? ⟨(w.heap.size + 1), 1, none⟩ = false := HB.out.f 1; have qf2 : w4.frozen? ⟨(w.heap.size + 1), 2, none⟩ = false := HB.out.f 2; have qf3 : w4.frozen? ⟨(w.heap.size + 1), 3, none⟩ = false := HB.out.f 3; have qf4 : w4.frozen? ⟨(w.heap.size + 1), 4, none⟩ = false := HB.out.f 4; have s0 : w4.cell? ⟨E, 0, none⟩ = some (.int .i64 m) := HE.out.c 0 rfl; have s1 : w4.cell? ⟨E, 1, none⟩ = some (.int .i64 y) := HE.out.c 1 rfl; have s2 : w4.cell? ⟨E, 2, none⟩ = some (.int .i64 l) := HE.out.c 2 rfl; have s3 : w4.cell? ⟨E, 3, none⟩ = some (.int .i64 p) := HE.out.c 3 rfl; have s4 : w4.cell? ⟨E, 4, none⟩ = some (.int .i64 d) := HE.out.c 4 rfl; have s5 : w4.cell? ⟨E, 5, none⟩ = some (.int .i64 o) := HE.out.c 5 rfl; have s6 : w4.cell? ⟨E, 6, none⟩ = some (.int .i64 g) := HE.out.c 6 rfl))
  all_goals
    go_wp2_with fail
    exact bodyPost_ret (v := .tuple #[.agg #[.int .i64 m, .int .i64 y, .int .i64 l, .int .i64 p, .int .i64 d, .int .i64 o, .int .i64 g], .agg #[.int .i64 k, .int .i64 n1, .int .i64 a1, .int .i64 f, .int .i64 x]]) (by simp [results, Try.results13, go_sem, z0, z1, z2, z3, z4, z5, z6, q0, q1, q2, q3, q4]) rfl ⟨m, y, l, p, d, o, g, k, n1, a1, f, x, rfl, by repeat (first | with_reducible refine gS ?_ (by first | omega | (simp; omega)) _ _ | with_reducible exact HG.out)⟩

end Go.Proofs.Yteicihinpjjllaa
