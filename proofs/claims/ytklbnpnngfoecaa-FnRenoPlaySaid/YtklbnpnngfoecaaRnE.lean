/- Windows: the drawing of an event. -/
import Derived.Test.YtklbnpnngfoecaaDst
import Derived.Test.YtklbnpnngfoecaaOffW
namespace Go.Proofs.Ytklbnpnngfoecaa
open Go.RowKit

def EvPost (w : World) (r : Nat) (e : Ending) (w' : World) : Prop :=
  ∃ k n a f x : Int, e = .returned (.agg #[.int .i64 k, .int .i64 n, .int .i64 a, .int .i64 f, .int .i64 x]) ∧ w.grownBy w' (some r) ∧ RdOk w' r

set_option maxRecDepth 100000 in
set_option maxHeartbeats 8000000 in
theorem event_draw (r : Nat) (w : World) (h : RdOk w r) : Calls Try.prog 15 #[.pointer (some ⟨r, 0, none⟩)] w (EvPost w r) := by
  have hlt := h.lt
  have H := Lib.hid h
  clear h
  go_enter Try.func15, Try.ntmps15
  go_wp2_with fail
  refine (below_any _ _ _ (H.out.alloc _) (by omega)).mono ?_
  rintro e w1 ⟨v, v0, v1, rfl, hg, hr⟩
  rw [if_neg (by omega)] at v1
  have H1 := Lib.hid (And.intro (grownBy_trans (World.grownBy_alloc w (.cells #[.int .i64 0, .int .i64 0, .int .i64 0, .int .i64 0, .int .i64 0] 41) (some r)) hg) (And.intro hr ((Bx.new w 41 #[.int .i64 0, .int .i64 0, .int .i64 0, .int .i64 0, .int .i64 0]).kept hg (by simp; omega))))
  clear hg hr
  have s1 : IntKind.i64.wrap (1 + v) = 1 + v := IntWalk.i64_in _ (by omega)
  go_wp2_with fail
  refine (below_any _ _ _ H1.out.2.1 (by omega)).mono ?_
  rintro e w2 ⟨f, f0, f1, rfl, hg, hr⟩
  rw [if_neg (by omega)] at f1
  have H2 := Lib.hid (And.intro (grownBy_trans H1.out.1 hg) (And.intro hr (H1.out.2.2.kept hg (by simp; omega))))
  clear hg hr H1
  go_wp2_with fail
  refine (below_any _ _ _ H2.out.2.1 (by omega)).mono ?_
  rintro e w3 ⟨u, u0, u1, rfl, hg, hr⟩
  rw [if_neg (by omega)] at u1
  have s2 : IntKind.i64.wrap (50 + u) = 50 + u := IntWalk.i64_in _ (by omega)
  have H3 := Lib.hid (And.intro (grownBy_trans H2.out.1 hg) (And.intro hr (H2.out.2.2.kept hg (by simp; omega))))
  clear hg hr H2
  have HS := Lib.hid (show Dst w r w.heap.size 41 #[.int .i64 0, .int .i64 0, .int .i64 0, .int .i64 0, .int .i64 0] w3.heap.size 41 #[.int .i64 (1 + v), .int .i64 0, .int .i64 0, .int .i64 f, .int .i64 (50 + u)] (w3.alloc (.cells #[.int .i64 (1 + v), .int .i64 0, .int .i64 0, .int .i64 f, .int .i64 (50 + u)] 41)) from ⟨hlt, Nat.le_refl _, H3.out.2.2.lt, grownBy_trans H3.out.1 (World.grownBy_alloc _ _ _), H3.out.2.1.alloc _, H3.out.2.2.alloc _, Bx.new _ _ _⟩)
  clear H3 H v0 f0 f1
  go_wp2_with fail
  refine (below_any _ _ _ HS.out.rd (by omega)).mono ?_
  rintro e w4 ⟨a, a0, a1, rfl, hg, hr⟩
  have HS := Lib.hid (HS.out.step hg hr)
  clear hg hr
  generalize w3.heap.size = E at *
  obtain ⟨x, hx⟩ : ∃ x, x = 50 + u := ⟨_, rfl⟩
  obtain ⟨k, hk⟩ : ∃ k, k = 1 + v := ⟨_, rfl⟩
  rw [← hx, ← hk] at HS
  rw [← hx] at s2
  rw [← hk] at s1
  clear s1 s2 hx hk
  have ne1 : ¬ E = w.heap.size := by have := HS.out.le; omega
  have ne2 : ¬ w.heap.size = E := by have := HS.out.le; omega
  have c0 : w4.cell? ⟨E, 0, none⟩ = some (.int .i64 k) := HS.out.b.c 0 rfl
  have c1 : w4.cell? ⟨E, 1, none⟩ = some (.int .i64 0) := HS.out.b.c 1 rfl
  have c2 : w4.cell? ⟨E, 2, none⟩ = some (.int .i64 0) := HS.out.b.c 2 rfl
  have c3 : w4.cell? ⟨E, 3, none⟩ = some (.int .i64 f) := HS.out.b.c 3 rfl
  have c4 : w4.cell? ⟨E, 4, none⟩ = some (.int .i64 x) := HS.out.b.c 4 rfl
  have d0 : w4.frozen? ⟨E, 0, none⟩ = false := HS.out.b.f 0
  have d1 : w4.frozen? ⟨E, 1, none⟩ = false := HS.out.b.f 1
  have d2 : w4.frozen? ⟨E, 2, none⟩ = false := HS.out.b.f 2
  have d3 : w4.frozen? ⟨E, 3, none⟩ = false := HS.out.b.f 3
  have d4 : w4.frozen? ⟨E, 4, none⟩ = false := HS.out.b.f 4
  have HS := Lib.hid (HS.out.s 2 (.int .i64 a))
  by_cases hax : x < a
  · have HS := Lib.hid (HS.out.s 2 (.int .i64 x))
    go_wp2_with fail
    clear c0 d0 c1 d1 c2 d2 c3 d3 c4 d4
    refine (once_any _ _ _ HS.out.rd (by omega) (by omega)).mono ?_
    rintro e w2 ⟨b1, rfl, hg, hr⟩
    have HS := Lib.hid (HS.out.step hg hr)
    clear hg hr
    have c0 : w2.cell? ⟨E, 0, none⟩ = some (.int .i64 k) := HS.out.b.c 0 rfl
    have c1 : w2.cell? ⟨E, 1, none⟩ = some (.int .i64 0) := HS.out.b.c 1 rfl
    have c2 : w2.cell? ⟨E, 2, none⟩ = some (.int .i64 x) := HS.out.b.c 2 rfl
    have c3 : w2.cell? ⟨E, 3, none⟩ = some (.int .i64 f) := HS.out.b.c 3 rfl
    have c4 : w2.cell? ⟨E, 4, none⟩ = some (.int .i64 x) := HS.out.b.c 4 rfl
    have d0 : w2.frozen? ⟨E, 0, none⟩ = false := HS.out.b.f 0
    have d1 : w2.frozen? ⟨E, 1, none⟩ = false := HS.out.b.f 1
    have d2 : w2.frozen? ⟨E, 2, none⟩ = false := HS.out.b.f 2
    have d3 : w2.frozen? ⟨E, 3, none⟩ = false := HS.out.b.f 3
    have d4 : w2.frozen? ⟨E, 4, none⟩ = false := HS.out.b.f 4
    cases b1
    · by_cases h1 : k = 1
      · subst h1
        go_wp2_with fail
        refine (below_any _ _ _ HS.out.rd (by omega)).mono ?_
        rintro e w4 ⟨n3, n3a, n3b, rfl, hg, hr⟩
        rw [if_neg (by omega)] at n3b
        have s1 : IntKind.i64.wrap (1 + n3) = 1 + n3 := IntWalk.i64_in _ (by omega)
        have HS := Lib.hid (HS.out.step hg hr)
        clear hg hr
        clear c0 d0 c1 d1 c2 d2 c3 d3 c4 d4
        have c0 : w4.cell? ⟨E, 0, none⟩ = some (.int .i64 1) := HS.out.b.c 0 rfl
        have c1 : w4.cell? ⟨E, 1, none⟩ = some (.int .i64 0) := HS.out.b.c 1 rfl
        have c2 : w4.cell? ⟨E, 2, none⟩ = some (.int .i64 x) := HS.out.b.c 2 rfl
        have c3 : w4.cell? ⟨E, 3, none⟩ = some (.int .i64 f) := HS.out.b.c 3 rfl
        have c4 : w4.cell? ⟨E, 4, none⟩ = some (.int .i64 x) := HS.out.b.c 4 rfl
        have d0 : w4.frozen? ⟨E, 0, none⟩ = false := HS.out.b.f 0
        have d1 : w4.frozen? ⟨E, 1, none⟩ = false := HS.out.b.f 1
        have d2 : w4.frozen? ⟨E, 2, none⟩ = false := HS.out.b.f 2
        have d3 : w4.frozen? ⟨E, 3, none⟩ = false := HS.out.b.f 3
        have d4 : w4.frozen? ⟨E, 4, none⟩ = false := HS.out.b.f 4
        have HS := Lib.hid (HS.out.s 1 (.int .i64 (1 + n3)))
        go_wp2_with fail
        clear c0 d0 c1 d1 c2 d2 c3 d3 c4 d4
        refine (once_any _ _ _ HS.out.rd (by omega) (by omega)).mono ?_
        rintro e w6 ⟨b5, rfl, hg, hr⟩
        have HS := Lib.hid (HS.out.step hg hr)
        clear hg hr
        cases b5
        · have c0 : w6.cell? ⟨E, 0, none⟩ = some (.int .i64 1) := HS.out.b.c 0 rfl
          have c1 : w6.cell? ⟨E, 1, none⟩ = some (.int .i64 (1 + n3)) := HS.out.b.c 1 rfl
          have c2 : w6.cell? ⟨E, 2, none⟩ = some (.int .i64 x) := HS.out.b.c 2 rfl
          have c3 : w6.cell? ⟨E, 3, none⟩ = some (.int .i64 f) := HS.out.b.c 3 rfl
          have c4 : w6.cell? ⟨E, 4, none⟩ = some (.int .i64 x) := HS.out.b.c 4 rfl
          have d0 : w6.frozen? ⟨E, 0, none⟩ = false := HS.out.b.f 0
          have d1 : w6.frozen? ⟨E, 1, none⟩ = false := HS.out.b.f 1
          have d2 : w6.frozen? ⟨E, 2, none⟩ = false := HS.out.b.f 2
          have d3 : w6.frozen? ⟨E, 3, none⟩ = false := HS.out.b.f 3
          have d4 : w6.frozen? ⟨E, 4, none⟩ = false := HS.out.b.f 4
          have z0 : w6.cell? ⟨w.heap.size, 0, none⟩ = some (.int .i64 0) := HS.out.a.c 0 rfl
          have z1 : w6.cell? ⟨w.heap.size, 1, none⟩ = some (.int .i64 0) := HS.out.a.c 1 rfl
          have z2 : w6.cell? ⟨w.heap.size, 2, none⟩ = some (.int .i64 0) := HS.out.a.c 2 rfl
          have z3 : w6.cell? ⟨w.heap.size, 3, none⟩ = some (.int .i64 0) := HS.out.a.c 3 rfl
          have z4 : w6.cell? ⟨w.heap.size, 4, none⟩ = some (.int .i64 0) := HS.out.a.c 4 rfl
          have y0 : w6.frozen? ⟨w.heap.size, 0, none⟩ = false := HS.out.a.f 0
          have y1 : w6.frozen? ⟨w.heap.size, 1, none⟩ = false := HS.out.a.f 1
          have y2 : w6.frozen? ⟨w.heap.size, 2, none⟩ = false := HS.out.a.f 2
          have y3 : w6.frozen? ⟨w.heap.size, 3, none⟩ = false := HS.out.a.f 3
          have y4 : w6.frozen? ⟨w.heap.size, 4, none⟩ = false := HS.out.a.f 4
          go_wp2_with fail
          exact bodyPost_ret (v := .agg #[.int .i64 1, .int .i64 (1 + n3), .int .i64 x, .int .i64 f, .int .i64 x]) (by simp [results, Try.results15, go_sem, z0, z1, z2, z3, z4]) rfl ⟨1, (1 + n3), x, f, x, rfl, HS.out.fin5 _ _ _ _ _⟩
        · have c0 : w6.cell? ⟨E, 0, none⟩ = some (.int .i64 1) := HS.out.b.c 0 rfl
          have c1 : w6.cell? ⟨E, 1, none⟩ = some (.int .i64 (1 + n3)) := HS.out.b.c 1 rfl
          have c2 : w6.cell? ⟨E, 2, none⟩ = some (.int .i64 x) := HS.out.b.c 2 rfl
          have c3 : w6.cell? ⟨E, 3, none⟩ = some (.int .i64 f) := HS.out.b.c 3 rfl
          have c4 : w6.cell? ⟨E, 4, none⟩ = some (.int .i64 x) := HS.out.b.c 4 rfl
          have d0 : w6.frozen? ⟨E, 0, none⟩ = false := HS.out.b.f 0
          have d1 : w6.frozen? ⟨E, 1, none⟩ = false := HS.out.b.f 1
          have d2 : w6.frozen? ⟨E, 2, none⟩ = false := HS.out.b.f 2
          have d3 : w6.frozen? ⟨E, 3, none⟩ = false := HS.out.b.f 3
          have d4 : w6.frozen? ⟨E, 4, none⟩ = false := HS.out.b.f 4
          go_wp2_with fail
          refine (off_w _ _ _ _ HS.out.rd (by omega) (wf_of (by omega) (by omega))).mono ?_
          rintro e w8 ⟨p7, _, rfl, hg, hr⟩
          have HS := Lib.hid (HS.out.step hg hr)
          clear hg hr
          clear c0 d0 c1 d1 c2 d2 c3 d3 c4 d4
          have c0 : w8.cell? ⟨E, 0, none⟩ = some (.int .i64 1) := HS.out.b.c 0 rfl
          have c1 : w8.cell? ⟨E, 1, none⟩ = some (.int .i64 (1 + n3)) := HS.out.b.c 1 rfl
          have c2 : w8.cell? ⟨E, 2, none⟩ = some (.int .i64 x) := HS.out.b.c 2 rfl
          have c3 : w8.cell? ⟨E, 3, none⟩ = some (.int .i64 f) := HS.out.b.c 3 rfl
          have c4 : w8.cell? ⟨E, 4, none⟩ = some (.int .i64 x) := HS.out.b.c 4 rfl
          have d0 : w8.frozen? ⟨E, 0, none⟩ = false := HS.out.b.f 0
          have d1 : w8.frozen? ⟨E, 1, none⟩ = false := HS.out.b.f 1
          have d2 : w8.frozen? ⟨E, 2, none⟩ = false := HS.out.b.f 2
          have d3 : w8.frozen? ⟨E, 3, none⟩ = false := HS.out.b.f 3
          have d4 : w8.frozen? ⟨E, 4, none⟩ = false := HS.out.b.f 4
          have HS := Lib.hid (HS.out.s 3 (.int .i64 p7))
          have z0 : (w8.setCell ⟨E, 3, none⟩ (.int .i64 p7)).cell? ⟨w.heap.size, 0, none⟩ = some (.int .i64 0) := HS.out.a.c 0 rfl
          have z1 : (w8.setCell ⟨E, 3, none⟩ (.int .i64 p7)).cell? ⟨w.heap.size, 1, none⟩ = some (.int .i64 0) := HS.out.a.c 1 rfl
          have z2 : (w8.setCell ⟨E, 3, none⟩ (.int .i64 p7)).cell? ⟨w.heap.size, 2, none⟩ = some (.int .i64 0) := HS.out.a.c 2 rfl
          have z3 : (w8.setCell ⟨E, 3, none⟩ (.int .i64 p7)).cell? ⟨w.heap.size, 3, none⟩ = some (.int .i64 0) := HS.out.a.c 3 rfl
          have z4 : (w8.setCell ⟨E, 3, none⟩ (.int .i64 p7)).cell? ⟨w.heap.size, 4, none⟩ = some (.int .i64 0) := HS.out.a.c 4 rfl
          have y0 : (w8.setCell ⟨E, 3, none⟩ (.int .i64 p7)).frozen? ⟨w.heap.size, 0, none⟩ = false := HS.out.a.f 0
          have y1 : (w8.setCell ⟨E, 3, none⟩ (.int .i64 p7)).frozen? ⟨w.heap.size, 1, none⟩ = false := HS.out.a.f 1
          have y2 : (w8.setCell ⟨E, 3, none⟩ (.int .i64 p7)).frozen? ⟨w.heap.size, 2, none⟩ = false := HS.out.a.f 2
          have y3 : (w8.setCell ⟨E, 3, none⟩ (.int .i64 p7)).frozen? ⟨w.heap.size, 3, none⟩ = false := HS.out.a.f 3
          have y4 : (w8.setCell ⟨E, 3, none⟩ (.int .i64 p7)).frozen? ⟨w.heap.size, 4, none⟩ = false := HS.out.a.f 4
          go_wp2_with fail
          exact bodyPost_ret (v := .agg #[.int .i64 1, .int .i64 (1 + n3), .int .i64 x, .int .i64 p7, .int .i64 x]) (by simp [results, Try.results15, go_sem, z0, z1, z2, z3, z4]) rfl ⟨1, (1 + n3), x, p7, x, rfl, HS.out.fin5 _ _ _ _ _⟩
      · go_wp2_with fail
        clear c0 d0 c1 d1 c2 d2 c3 d3 c4 d4
        refine (once_any _ _ _ HS.out.rd (by omega) (by omega)).mono ?_
        rintro e w10 ⟨b9, rfl, hg, hr⟩
        have HS := Lib.hid (HS.out.step hg hr)
        clear hg hr
        cases b9
        · have c0 : w10.cell? ⟨E, 0, none⟩ = some (.int .i64 k) := HS.out.b.c 0 rfl
          have c1 : w10.cell? ⟨E, 1, none⟩ = some (.int .i64 0) := HS.out.b.c 1 rfl
          have c2 : w10.cell? ⟨E, 2, none⟩ = some (.int .i64 x) := HS.out.b.c 2 rfl
          have c3 : w10.cell? ⟨E, 3, none⟩ = some (.int .i64 f) := HS.out.b.c 3 rfl
          have c4 : w10.cell? ⟨E, 4, none⟩ = some (.int .i64 x) := HS.out.b.c 4 rfl
          have d0 : w10.frozen? ⟨E, 0, none⟩ = false := HS.out.b.f 0
          have d1 : w10.frozen? ⟨E, 1, none⟩ = false := HS.out.b.f 1
          have d2 : w10.frozen? ⟨E, 2, none⟩ = false := HS.out.b.f 2
          have d3 : w10.frozen? ⟨E, 3, none⟩ = false := HS.out.b.f 3
          have d4 : w10.frozen? ⟨E, 4, none⟩ = false := HS.out.b.f 4
          have z0 : w10.cell? ⟨w.heap.size, 0, none⟩ = some (.int .i64 0) := HS.out.a.c 0 rfl
          have z1 : w10.cell? ⟨w.heap.size, 1, none⟩ = some (.int .i64 0) := HS.out.a.c 1 rfl
          have z2 : w10.cell? ⟨w.heap.size, 2, none⟩ = some (.int .i64 0) := HS.out.a.c 2 rfl
          have z3 : w10.cell? ⟨w.heap.size, 3, none⟩ = some (.int .i64 0) := HS.out.a.c 3 rfl
          have z4 : w10.cell? ⟨w.heap.size, 4, none⟩ = some (.int .i64 0) := HS.out.a.c 4 rfl
          have y0 : w10.frozen? ⟨w.heap.size, 0, none⟩ = false := HS.out.a.f 0
          have y1 : w10.frozen? ⟨w.heap.size, 1, none⟩ = false := HS.out.a.f 1
          have y2 : w10.frozen? ⟨w.heap.size, 2, none⟩ = false := HS.out.a.f 2
          have y3 : w10.frozen? ⟨w.heap.size, 3, none⟩ = false := HS.out.a.f 3
          have y4 : w10.frozen? ⟨w.heap.size, 4, none⟩ = false := HS.out.a.f 4
          go_wp2_with fail
          exact bodyPost_ret (v := .agg #[.int .i64 k, .int .i64 0, .int .i64 x, .int .i64 f, .int .i64 x]) (by simp [results, Try.results15, go_sem, z0, z1, z2, z3, z4]) rfl ⟨k, 0, x, f, x, rfl, HS.out.fin5 _ _ _ _ _⟩
        · have c0 : w10.cell? ⟨E, 0, none⟩ = some (.int .i64 k) := HS.out.b.c 0 rfl
          have c1 : w10.cell? ⟨E, 1, none⟩ = some (.int .i64 0) := HS.out.b.c 1 rfl
          have c2 : w10.cell? ⟨E, 2, none⟩ = some (.int .i64 x) := HS.out.b.c 2 rfl
          have c3 : w10.cell? ⟨E, 3, none⟩ = some (.int .i64 f) := HS.out.b.c 3 rfl
          have c4 : w10.cell? ⟨E, 4, none⟩ = some (.int .i64 x) := HS.out.b.c 4 rfl
          have d0 : w10.frozen? ⟨E, 0, none⟩ = false := HS.out.b.f 0
          have d1 : w10.frozen? ⟨E, 1, none⟩ = false := HS.out.b.f 1
          have d2 : w10.frozen? ⟨E, 2, none⟩ = false := HS.out.b.f 2
          have d3 : w10.frozen? ⟨E, 3, none⟩ = false := HS.out.b.f 3
          have d4 : w10.frozen? ⟨E, 4, none⟩ = false := HS.out.b.f 4
          go_wp2_with fail
          refine (off_w _ _ _ _ HS.out.rd (by omega) (wf_of (by omega) (by omega))).mono ?_
          rintro e w12 ⟨p11, _, rfl, hg, hr⟩
          have HS := Lib.hid (HS.out.step hg hr)
          clear hg hr
          clear c0 d0 c1 d1 c2 d2 c3 d3 c4 d4
          have c0 : w12.cell? ⟨E, 0, none⟩ = some (.int .i64 k) := HS.out.b.c 0 rfl
          have c1 : w12.cell? ⟨E, 1, none⟩ = some (.int .i64 0) := HS.out.b.c 1 rfl
          have c2 : w12.cell? ⟨E, 2, none⟩ = some (.int .i64 x) := HS.out.b.c 2 rfl
          have c3 : w12.cell? ⟨E, 3, none⟩ = some (.int .i64 f) := HS.out.b.c 3 rfl
          have c4 : w12.cell? ⟨E, 4, none⟩ = some (.int .i64 x) := HS.out.b.c 4 rfl
          have d0 : w12.frozen? ⟨E, 0, none⟩ = false := HS.out.b.f 0
          have d1 : w12.frozen? ⟨E, 1, none⟩ = false := HS.out.b.f 1
          have d2 : w12.frozen? ⟨E, 2, none⟩ = false := HS.out.b.f 2
          have d3 : w12.frozen? ⟨E, 3, none⟩ = false := HS.out.b.f 3
          have d4 : w12.frozen? ⟨E, 4, none⟩ = false := HS.out.b.f 4
          have HS := Lib.hid (HS.out.s 3 (.int .i64 p11))
          have z0 : (w12.setCell ⟨E, 3, none⟩ (.int .i64 p11)).cell? ⟨w.heap.size, 0, none⟩ = some (.int .i64 0) := HS.out.a.c 0 rfl
          have z1 : (w12.setCell ⟨E, 3, none⟩ (.int .i64 p11)).cell? ⟨w.heap.size, 1, none⟩ = some (.int .i64 0) := HS.out.a.c 1 rfl
          have z2 : (w12.setCell ⟨E, 3, none⟩ (.int .i64 p11)).cell? ⟨w.heap.size, 2, none⟩ = some (.int .i64 0) := HS.out.a.c 2 rfl
          have z3 : (w12.setCell ⟨E, 3, none⟩ (.int .i64 p11)).cell? ⟨w.heap.size, 3, none⟩ = some (.int .i64 0) := HS.out.a.c 3 rfl
          have z4 : (w12.setCell ⟨E, 3, none⟩ (.int .i64 p11)).cell? ⟨w.heap.size, 4, none⟩ = some (.int .i64 0) := HS.out.a.c 4 rfl
          have y0 : (w12.setCell ⟨E, 3, none⟩ (.int .i64 p11)).frozen? ⟨w.heap.size, 0, none⟩ = false := HS.out.a.f 0
          have y1 : (w12.setCell ⟨E, 3, none⟩ (.int .i64 p11)).frozen? ⟨w.heap.size, 1, none⟩ = false := HS.out.a.f 1
          have y2 : (w12.setCell ⟨E, 3, none⟩ (.int .i64 p11)).frozen? ⟨w.heap.size, 2, none⟩ = false := HS.out.a.f 2
          have y3 : (w12.setCell ⟨E, 3, none⟩ (.int .i64 p11)).frozen? ⟨w.heap.size, 3, none⟩ = false := HS.out.a.f 3
          have y4 : (w12.setCell ⟨E, 3, none⟩ (.int .i64 p11)).frozen? ⟨w.heap.size, 4, none⟩ = false := HS.out.a.f 4
          go_wp2_with fail
          exact bodyPost_ret (v := .agg #[.int .i64 k, .int .i64 0, .int .i64 x, .int .i64 p11, .int .i64 x]) (by simp [results, Try.results15, go_sem, z0, z1, z2, z3, z4]) rfl ⟨k, 0, x, p11, x, rfl, HS.out.fin5 _ _ _ _ _⟩
    · have HS := Lib.hid (HS.out.s 0 (.int .i64 2))
      go_wp2_with fail
      clear c0 d0 c1 d1 c2 d2 c3 d3 c4 d4
      refine (once_any _ _ _ HS.out.rd (by omega) (by omega)).mono ?_
      rintro e w14 ⟨b13, rfl, hg, hr⟩
      have HS := Lib.hid (HS.out.step hg hr)
      clear hg hr
      cases b13
      · have c0 : w14.cell? ⟨E, 0, none⟩ = some (.int .i64 2) := HS.out.b.c 0 rfl
        have c1 : w14.cell? ⟨E, 1, none⟩ = some (.int .i64 0) := HS.out.b.c 1 rfl
        have c2 : w14.cell? ⟨E, 2, none⟩ = some (.int .i64 x) := HS.out.b.c 2 rfl
        have c3 : w14.cell? ⟨E, 3, none⟩ = some (.int .i64 f) := HS.out.b.c 3 rfl
        have c4 : w14.cell? ⟨E, 4, none⟩ = some (.int .i64 x) := HS.out.b.c 4 rfl
        have d0 : w14.frozen? ⟨E, 0, none⟩ = false := HS.out.b.f 0
        have d1 : w14.frozen? ⟨E, 1, none⟩ = false := HS.out.b.f 1
        have d2 : w14.frozen? ⟨E, 2, none⟩ = false := HS.out.b.f 2
        have d3 : w14.frozen? ⟨E, 3, none⟩ = false := HS.out.b.f 3
        have d4 : w14.frozen? ⟨E, 4, none⟩ = false := HS.out.b.f 4
        have z0 : w14.cell? ⟨w.heap.size, 0, none⟩ = some (.int .i64 0) := HS.out.a.c 0 rfl
        have z1 : w14.cell? ⟨w.heap.size, 1, none⟩ = some (.int .i64 0) := HS.out.a.c 1 rfl
        have z2 : w14.cell? ⟨w.heap.size, 2, none⟩ = some (.int .i64 0) := HS.out.a.c 2 rfl
        have z3 : w14.cell? ⟨w.heap.size, 3, none⟩ = some (.int .i64 0) := HS.out.a.c 3 rfl
        have z4 : w14.cell? ⟨w.heap.size, 4, none⟩ = some (.int .i64 0) := HS.out.a.c 4 rfl
        have y0 : w14.frozen? ⟨w.heap.size, 0, none⟩ = false := HS.out.a.f 0
        have y1 : w14.frozen? ⟨w.heap.size, 1, none⟩ = false := HS.out.a.f 1
        have y2 : w14.frozen? ⟨w.heap.size, 2, none⟩ = false := HS.out.a.f 2
        have y3 : w14.frozen? ⟨w.heap.size, 3, none⟩ = false := HS.out.a.f 3
        have y4 : w14.frozen? ⟨w.heap.size, 4, none⟩ = false := HS.out.a.f 4
        go_wp2_with fail
        exact bodyPost_ret (v := .agg #[.int .i64 2, .int .i64 0, .int .i64 x, .int .i64 f, .int .i64 x]) (by simp [results, Try.results15, go_sem, z0, z1, z2, z3, z4]) rfl ⟨2, 0, x, f, x, rfl, HS.out.fin5 _ _ _ _ _⟩
      · have c0 : w14.cell? ⟨E, 0, none⟩ = some (.int .i64 2) := HS.out.b.c 0 rfl
        have c1 : w14.cell? ⟨E, 1, none⟩ = some (.int .i64 0) := HS.out.b.c 1 rfl
        have c2 : w14.cell? ⟨E, 2, none⟩ = some (.int .i64 x) := HS.out.b.c 2 rfl
        have c3 : w14.cell? ⟨E, 3, none⟩ = some (.int .i64 f) := HS.out.b.c 3 rfl
        have c4 : w14.cell? ⟨E, 4, none⟩ = some (.int .i64 x) := HS.out.b.c 4 rfl
        have d0 : w14.frozen? ⟨E, 0, none⟩ = false := HS.out.b.f 0
        have d1 : w14.frozen? ⟨E, 1, none⟩ = false := HS.out.b.f 1
        have d2 : w14.frozen? ⟨E, 2, none⟩ = false := HS.out.b.f 2
        have d3 : w14.frozen? ⟨E, 3, none⟩ = false := HS.out.b.f 3
        have d4 : w14.frozen? ⟨E, 4, none⟩ = false := HS.out.b.f 4
        go_wp2_with fail
        refine (off_w _ _ _ _ HS.out.rd (by omega) (wf_of (by omega) (by omega))).mono ?_
        rintro e w16 ⟨p15, _, rfl, hg, hr⟩
        have HS := Lib.hid (HS.out.step hg hr)
        clear hg hr
        clear c0 d0 c1 d1 c2 d2 c3 d3 c4 d4
        have c0 : w16.cell? ⟨E, 0, none⟩ = some (.int .i64 2) := HS.out.b.c 0 rfl
        have c1 : w16.cell? ⟨E, 1, none⟩ = some (.int .i64 0) := HS.out.b.c 1 rfl
        have c2 : w16.cell? ⟨E, 2, none⟩ = some (.int .i64 x) := HS.out.b.c 2 rfl
        have c3 : w16.cell? ⟨E, 3, none⟩ = some (.int .i64 f) := HS.out.b.c 3 rfl
        have c4 : w16.cell? ⟨E, 4, none⟩ = some (.int .i64 x) := HS.out.b.c 4 rfl
        have d0 : w16.frozen? ⟨E, 0, none⟩ = false := HS.out.b.f 0
        have d1 : w16.frozen? ⟨E, 1, none⟩ = false := HS.out.b.f 1
        have d2 : w16.frozen? ⟨E, 2, none⟩ = false := HS.out.b.f 2
        have d3 : w16.frozen? ⟨E, 3, none⟩ = false := HS.out.b.f 3
        have d4 : w16.frozen? ⟨E, 4, none⟩ = false := HS.out.b.f 4
        have HS := Lib.hid (HS.out.s 3 (.int .i64 p15))
        have z0 : (w16.setCell ⟨E, 3, none⟩ (.int .i64 p15)).cell? ⟨w.heap.size, 0, none⟩ = some (.int .i64 0) := HS.out.a.c 0 rfl
        have z1 : (w16.setCell ⟨E, 3, none⟩ (.int .i64 p15)).cell? ⟨w.heap.size, 1, none⟩ = some (.int .i64 0) := HS.out.a.c 1 rfl
        have z2 : (w16.setCell ⟨E, 3, none⟩ (.int .i64 p15)).cell? ⟨w.heap.size, 2, none⟩ = some (.int .i64 0) := HS.out.a.c 2 rfl
        have z3 : (w16.setCell ⟨E, 3, none⟩ (.int .i64 p15)).cell? ⟨w.heap.size, 3, none⟩ = some (.int .i64 0) := HS.out.a.c 3 rfl
        have z4 : (w16.setCell ⟨E, 3, none⟩ (.int .i64 p15)).cell? ⟨w.heap.size, 4, none⟩ = some (.int .i64 0) := HS.out.a.c 4 rfl
        have y0 : (w16.setCell ⟨E, 3, none⟩ (.int .i64 p15)).frozen? ⟨w.heap.size, 0, none⟩ = false := HS.out.a.f 0
        have y1 : (w16.setCell ⟨E, 3, none⟩ (.int .i64 p15)).frozen? ⟨w.heap.size, 1, none⟩ = false := HS.out.a.f 1
        have y2 : (w16.setCell ⟨E, 3, none⟩ (.int .i64 p15)).frozen? ⟨w.heap.size, 2, none⟩ = false := HS.out.a.f 2
        have y3 : (w16.setCell ⟨E, 3, none⟩ (.int .i64 p15)).frozen? ⟨w.heap.size, 3, none⟩ = false := HS.out.a.f 3
        have y4 : (w16.setCell ⟨E, 3, none⟩ (.int .i64 p15)).frozen? ⟨w.heap.size, 4, none⟩ = false := HS.out.a.f 4
        go_wp2_with fail
        exact bodyPost_ret (v := .agg #[.int .i64 2, .int .i64 0, .int .i64 x, .int .i64 p15, .int .i64 x]) (by simp [results, Try.results15, go_sem, z0, z1, z2, z3, z4]) rfl ⟨2, 0, x, p15, x, rfl, HS.out.fin5 _ _ _ _ _⟩
  · go_wp2_with fail
    clear c0 d0 c1 d1 c2 d2 c3 d3 c4 d4
    refine (once_any _ _ _ HS.out.rd (by omega) (by omega)).mono ?_
    rintro e w18 ⟨b17, rfl, hg, hr⟩
    have HS := Lib.hid (HS.out.step hg hr)
    clear hg hr
    have c0 : w18.cell? ⟨E, 0, none⟩ = some (.int .i64 k) := HS.out.b.c 0 rfl
    have c1 : w18.cell? ⟨E, 1, none⟩ = some (.int .i64 0) := HS.out.b.c 1 rfl
    have c2 : w18.cell? ⟨E, 2, none⟩ = some (.int .i64 a) := HS.out.b.c 2 rfl
    have c3 : w18.cell? ⟨E, 3, none⟩ = some (.int .i64 f) := HS.out.b.c 3 rfl
    have c4 : w18.cell? ⟨E, 4, none⟩ = some (.int .i64 x) := HS.out.b.c 4 rfl
    have d0 : w18.frozen? ⟨E, 0, none⟩ = false := HS.out.b.f 0
    have d1 : w18.frozen? ⟨E, 1, none⟩ = false := HS.out.b.f 1
    have d2 : w18.frozen? ⟨E, 2, none⟩ = false := HS.out.b.f 2
    have d3 : w18.frozen? ⟨E, 3, none⟩ = false := HS.out.b.f 3
    have d4 : w18.frozen? ⟨E, 4, none⟩ = false := HS.out.b.f 4
    cases b17
    · by_cases h1 : k = 1
      · subst h1
        go_wp2_with fail
        refine (below_any _ _ _ HS.out.rd (by omega)).mono ?_
        rintro e w20 ⟨n19, n19a, n19b, rfl, hg, hr⟩
        rw [if_neg (by omega)] at n19b
        have s1 : IntKind.i64.wrap (1 + n19) = 1 + n19 := IntWalk.i64_in _ (by omega)
        have HS := Lib.hid (HS.out.step hg hr)
        clear hg hr
        clear c0 d0 c1 d1 c2 d2 c3 d3 c4 d4
        have c0 : w20.cell? ⟨E, 0, none⟩ = some (.int .i64 1) := HS.out.b.c 0 rfl
        have c1 : w20.cell? ⟨E, 1, none⟩ = some (.int .i64 0) := HS.out.b.c 1 rfl
        have c2 : w20.cell? ⟨E, 2, none⟩ = some (.int .i64 a) := HS.out.b.c 2 rfl
        have c3 : w20.cell? ⟨E, 3, none⟩ = some (.int .i64 f) := HS.out.b.c 3 rfl
        have c4 : w20.cell? ⟨E, 4, none⟩ = some (.int .i64 x) := HS.out.b.c 4 rfl
        have d0 : w20.frozen? ⟨E, 0, none⟩ = false := HS.out.b.f 0
        have d1 : w20.frozen? ⟨E, 1, none⟩ = false := HS.out.b.f 1
        have d2 : w20.frozen? ⟨E, 2, none⟩ = false := HS.out.b.f 2
        have d3 : w20.frozen? ⟨E, 3, none⟩ = false := HS.out.b.f 3
        have d4 : w20.frozen? ⟨E, 4, none⟩ = false := HS.out.b.f 4
        have HS := Lib.hid (HS.out.s 1 (.int .i64 (1 + n19)))
        go_wp2_with fail
        clear c0 d0 c1 d1 c2 d2 c3 d3 c4 d4
        refine (once_any _ _ _ HS.out.rd (by omega) (by omega)).mono ?_
        rintro e w22 ⟨b21, rfl, hg, hr⟩
        have HS := Lib.hid (HS.out.step hg hr)
        clear hg hr
        cases b21
        · have c0 : w22.cell? ⟨E, 0, none⟩ = some (.int .i64 1) := HS.out.b.c 0 rfl
          have c1 : w22.cell? ⟨E, 1, none⟩ = some (.int .i64 (1 + n19)) := HS.out.b.c 1 rfl
          have c2 : w22.cell? ⟨E, 2, none⟩ = some (.int .i64 a) := HS.out.b.c 2 rfl
          have c3 : w22.cell? ⟨E, 3, none⟩ = some (.int .i64 f) := HS.out.b.c 3 rfl
          have c4 : w22.cell? ⟨E, 4, none⟩ = some (.int .i64 x) := HS.out.b.c 4 rfl
          have d0 : w22.frozen? ⟨E, 0, none⟩ = false := HS.out.b.f 0
          have d1 : w22.frozen? ⟨E, 1, none⟩ = false := HS.out.b.f 1
          have d2 : w22.frozen? ⟨E, 2, none⟩ = false := HS.out.b.f 2
          have d3 : w22.frozen? ⟨E, 3, none⟩ = false := HS.out.b.f 3
          have d4 : w22.frozen? ⟨E, 4, none⟩ = false := HS.out.b.f 4
          have z0 : w22.cell? ⟨w.heap.size, 0, none⟩ = some (.int .i64 0) := HS.out.a.c 0 rfl
          have z1 : w22.cell? ⟨w.heap.size, 1, none⟩ = some (.int .i64 0) := HS.out.a.c 1 rfl
          have z2 : w22.cell? ⟨w.heap.size, 2, none⟩ = some (.int .i64 0) := HS.out.a.c 2 rfl
          have z3 : w22.cell? ⟨w.heap.size, 3, none⟩ = some (.int .i64 0) := HS.out.a.c 3 rfl
          have z4 : w22.cell? ⟨w.heap.size, 4, none⟩ = some (.int .i64 0) := HS.out.a.c 4 rfl
          have y0 : w22.frozen? ⟨w.heap.size, 0, none⟩ = false := HS.out.a.f 0
          have y1 : w22.frozen? ⟨w.heap.size, 1, none⟩ = false := HS.out.a.f 1
          have y2 : w22.frozen? ⟨w.heap.size, 2, none⟩ = false := HS.out.a.f 2
          have y3 : w22.frozen? ⟨w.heap.size, 3, none⟩ = false := HS.out.a.f 3
          have y4 : w22.frozen? ⟨w.heap.size, 4, none⟩ = false := HS.out.a.f 4
          go_wp2_with fail
          exact bodyPost_ret (v := .agg #[.int .i64 1, .int .i64 (1 + n19), .int .i64 a, .int .i64 f, .int .i64 x]) (by simp [results, Try.results15, go_sem, z0, z1, z2, z3, z4]) rfl ⟨1, (1 + n19), a, f, x, rfl, HS.out.fin5 _ _ _ _ _⟩
        · have c0 : w22.cell? ⟨E, 0, none⟩ = some (.int .i64 1) := HS.out.b.c 0 rfl
          have c1 : w22.cell? ⟨E, 1, none⟩ = some (.int .i64 (1 + n19)) := HS.out.b.c 1 rfl
          have c2 : w22.cell? ⟨E, 2, none⟩ = some (.int .i64 a) := HS.out.b.c 2 rfl
          have c3 : w22.cell? ⟨E, 3, none⟩ = some (.int .i64 f) := HS.out.b.c 3 rfl
          have c4 : w22.cell? ⟨E, 4, none⟩ = some (.int .i64 x) := HS.out.b.c 4 rfl
          have d0 : w22.frozen? ⟨E, 0, none⟩ = false := HS.out.b.f 0
          have d1 : w22.frozen? ⟨E, 1, none⟩ = false := HS.out.b.f 1
          have d2 : w22.frozen? ⟨E, 2, none⟩ = false := HS.out.b.f 2
          have d3 : w22.frozen? ⟨E, 3, none⟩ = false := HS.out.b.f 3
          have d4 : w22.frozen? ⟨E, 4, none⟩ = false := HS.out.b.f 4
          go_wp2_with fail
          refine (off_w _ _ _ _ HS.out.rd (by omega) (wf_of (by omega) (by omega))).mono ?_
          rintro e w24 ⟨p23, _, rfl, hg, hr⟩
          have HS := Lib.hid (HS.out.step hg hr)
          clear hg hr
          clear c0 d0 c1 d1 c2 d2 c3 d3 c4 d4
          have c0 : w24.cell? ⟨E, 0, none⟩ = some (.int .i64 1) := HS.out.b.c 0 rfl
          have c1 : w24.cell? ⟨E, 1, none⟩ = some (.int .i64 (1 + n19)) := HS.out.b.c 1 rfl
          have c2 : w24.cell? ⟨E, 2, none⟩ = some (.int .i64 a) := HS.out.b.c 2 rfl
          have c3 : w24.cell? ⟨E, 3, none⟩ = some (.int .i64 f) := HS.out.b.c 3 rfl
          have c4 : w24.cell? ⟨E, 4, none⟩ = some (.int .i64 x) := HS.out.b.c 4 rfl
          have d0 : w24.frozen? ⟨E, 0, none⟩ = false := HS.out.b.f 0
          have d1 : w24.frozen? ⟨E, 1, none⟩ = false := HS.out.b.f 1
          have d2 : w24.frozen? ⟨E, 2, none⟩ = false := HS.out.b.f 2
          have d3 : w24.frozen? ⟨E, 3, none⟩ = false := HS.out.b.f 3
          have d4 : w24.frozen? ⟨E, 4, none⟩ = false := HS.out.b.f 4
          have HS := Lib.hid (HS.out.s 3 (.int .i64 p23))
          have z0 : (w24.setCell ⟨E, 3, none⟩ (.int .i64 p23)).cell? ⟨w.heap.size, 0, none⟩ = some (.int .i64 0) := HS.out.a.c 0 rfl
          have z1 : (w24.setCell ⟨E, 3, none⟩ (.int .i64 p23)).cell? ⟨w.heap.size, 1, none⟩ = some (.int .i64 0) := HS.out.a.c 1 rfl
          have z2 : (w24.setCell ⟨E, 3, none⟩ (.int .i64 p23)).cell? ⟨w.heap.size, 2, none⟩ = some (.int .i64 0) := HS.out.a.c 2 rfl
          have z3 : (w24.setCell ⟨E, 3, none⟩ (.int .i64 p23)).cell? ⟨w.heap.size, 3, none⟩ = some (.int .i64 0) := HS.out.a.c 3 rfl
          have z4 : (w24.setCell ⟨E, 3, none⟩ (.int .i64 p23)).cell? ⟨w.heap.size, 4, none⟩ = some (.int .i64 0) := HS.out.a.c 4 rfl
          have y0 : (w24.setCell ⟨E, 3, none⟩ (.int .i64 p23)).frozen? ⟨w.heap.size, 0, none⟩ = false := HS.out.a.f 0
          have y1 : (w24.setCell ⟨E, 3, none⟩ (.int .i64 p23)).frozen? ⟨w.heap.size, 1, none⟩ = false := HS.out.a.f 1
          have y2 : (w24.setCell ⟨E, 3, none⟩ (.int .i64 p23)).frozen? ⟨w.heap.size, 2, none⟩ = false := HS.out.a.f 2
          have y3 : (w24.setCell ⟨E, 3, none⟩ (.int .i64 p23)).frozen? ⟨w.heap.size, 3, none⟩ = false := HS.out.a.f 3
          have y4 : (w24.setCell ⟨E, 3, none⟩ (.int .i64 p23)).frozen? ⟨w.heap.size, 4, none⟩ = false := HS.out.a.f 4
          go_wp2_with fail
          exact bodyPost_ret (v := .agg #[.int .i64 1, .int .i64 (1 + n19), .int .i64 a, .int .i64 p23, .int .i64 x]) (by simp [results, Try.results15, go_sem, z0, z1, z2, z3, z4]) rfl ⟨1, (1 + n19), a, p23, x, rfl, HS.out.fin5 _ _ _ _ _⟩
      · go_wp2_with fail
        clear c0 d0 c1 d1 c2 d2 c3 d3 c4 d4
        refine (once_any _ _ _ HS.out.rd (by omega) (by omega)).mono ?_
        rintro e w26 ⟨b25, rfl, hg, hr⟩
        have HS := Lib.hid (HS.out.step hg hr)
        clear hg hr
        cases b25
        · have c0 : w26.cell? ⟨E, 0, none⟩ = some (.int .i64 k) := HS.out.b.c 0 rfl
          have c1 : w26.cell? ⟨E, 1, none⟩ = some (.int .i64 0) := HS.out.b.c 1 rfl
          have c2 : w26.cell? ⟨E, 2, none⟩ = some (.int .i64 a) := HS.out.b.c 2 rfl
          have c3 : w26.cell? ⟨E, 3, none⟩ = some (.int .i64 f) := HS.out.b.c 3 rfl
          have c4 : w26.cell? ⟨E, 4, none⟩ = some (.int .i64 x) := HS.out.b.c 4 rfl
          have d0 : w26.frozen? ⟨E, 0, none⟩ = false := HS.out.b.f 0
          have d1 : w26.frozen? ⟨E, 1, none⟩ = false := HS.out.b.f 1
          have d2 : w26.frozen? ⟨E, 2, none⟩ = false := HS.out.b.f 2
          have d3 : w26.frozen? ⟨E, 3, none⟩ = false := HS.out.b.f 3
          have d4 : w26.frozen? ⟨E, 4, none⟩ = false := HS.out.b.f 4
          have z0 : w26.cell? ⟨w.heap.size, 0, none⟩ = some (.int .i64 0) := HS.out.a.c 0 rfl
          have z1 : w26.cell? ⟨w.heap.size, 1, none⟩ = some (.int .i64 0) := HS.out.a.c 1 rfl
          have z2 : w26.cell? ⟨w.heap.size, 2, none⟩ = some (.int .i64 0) := HS.out.a.c 2 rfl
          have z3 : w26.cell? ⟨w.heap.size, 3, none⟩ = some (.int .i64 0) := HS.out.a.c 3 rfl
          have z4 : w26.cell? ⟨w.heap.size, 4, none⟩ = some (.int .i64 0) := HS.out.a.c 4 rfl
          have y0 : w26.frozen? ⟨w.heap.size, 0, none⟩ = false := HS.out.a.f 0
          have y1 : w26.frozen? ⟨w.heap.size, 1, none⟩ = false := HS.out.a.f 1
          have y2 : w26.frozen? ⟨w.heap.size, 2, none⟩ = false := HS.out.a.f 2
          have y3 : w26.frozen? ⟨w.heap.size, 3, none⟩ = false := HS.out.a.f 3
          have y4 : w26.frozen? ⟨w.heap.size, 4, none⟩ = false := HS.out.a.f 4
          go_wp2_with fail
          exact bodyPost_ret (v := .agg #[.int .i64 k, .int .i64 0, .int .i64 a, .int .i64 f, .int .i64 x]) (by simp [results, Try.results15, go_sem, z0, z1, z2, z3, z4]) rfl ⟨k, 0, a, f, x, rfl, HS.out.fin5 _ _ _ _ _⟩
        · have c0 : w26.cell? ⟨E, 0, none⟩ = some (.int .i64 k) := HS.out.b.c 0 rfl
          have c1 : w26.cell? ⟨E, 1, none⟩ = some (.int .i64 0) := HS.out.b.c 1 rfl
          have c2 : w26.cell? ⟨E, 2, none⟩ = some (.int .i64 a) := HS.out.b.c 2 rfl
          have c3 : w26.cell? ⟨E, 3, none⟩ = some (.int .i64 f) := HS.out.b.c 3 rfl
          have c4 : w26.cell? ⟨E, 4, none⟩ = some (.int .i64 x) := HS.out.b.c 4 rfl
          have d0 : w26.frozen? ⟨E, 0, none⟩ = false := HS.out.b.f 0
          have d1 : w26.frozen? ⟨E, 1, none⟩ = false := HS.out.b.f 1
          have d2 : w26.frozen? ⟨E, 2, none⟩ = false := HS.out.b.f 2
          have d3 : w26.frozen? ⟨E, 3, none⟩ = false := HS.out.b.f 3
          have d4 : w26.frozen? ⟨E, 4, none⟩ = false := HS.out.b.f 4
          go_wp2_with fail
          refine (off_w _ _ _ _ HS.out.rd (by omega) (wf_of (by omega) (by omega))).mono ?_
          rintro e w28 ⟨p27, _, rfl, hg, hr⟩
          have HS := Lib.hid (HS.out.step hg hr)
          clear hg hr
          clear c0 d0 c1 d1 c2 d2 c3 d3 c4 d4
          have c0 : w28.cell? ⟨E, 0, none⟩ = some (.int .i64 k) := HS.out.b.c 0 rfl
          have c1 : w28.cell? ⟨E, 1, none⟩ = some (.int .i64 0) := HS.out.b.c 1 rfl
          have c2 : w28.cell? ⟨E, 2, none⟩ = some (.int .i64 a) := HS.out.b.c 2 rfl
          have c3 : w28.cell? ⟨E, 3, none⟩ = some (.int .i64 f) := HS.out.b.c 3 rfl
          have c4 : w28.cell? ⟨E, 4, none⟩ = some (.int .i64 x) := HS.out.b.c 4 rfl
          have d0 : w28.frozen? ⟨E, 0, none⟩ = false := HS.out.b.f 0
          have d1 : w28.frozen? ⟨E, 1, none⟩ = false := HS.out.b.f 1
          have d2 : w28.frozen? ⟨E, 2, none⟩ = false := HS.out.b.f 2
          have d3 : w28.frozen? ⟨E, 3, none⟩ = false := HS.out.b.f 3
          have d4 : w28.frozen? ⟨E, 4, none⟩ = false := HS.out.b.f 4
          have HS := Lib.hid (HS.out.s 3 (.int .i64 p27))
          have z0 : (w28.setCell ⟨E, 3, none⟩ (.int .i64 p27)).cell? ⟨w.heap.size, 0, none⟩ = some (.int .i64 0) := HS.out.a.c 0 rfl
          have z1 : (w28.setCell ⟨E, 3, none⟩ (.int .i64 p27)).cell? ⟨w.heap.size, 1, none⟩ = some (.int .i64 0) := HS.out.a.c 1 rfl
          have z2 : (w28.setCell ⟨E, 3, none⟩ (.int .i64 p27)).cell? ⟨w.heap.size, 2, none⟩ = some (.int .i64 0) := HS.out.a.c 2 rfl
          have z3 : (w28.setCell ⟨E, 3, none⟩ (.int .i64 p27)).cell? ⟨w.heap.size, 3, none⟩ = some (.int .i64 0) := HS.out.a.c 3 rfl
          have z4 : (w28.setCell ⟨E, 3, none⟩ (.int .i64 p27)).cell? ⟨w.heap.size, 4, none⟩ = some (.int .i64 0) := HS.out.a.c 4 rfl
          have y0 : (w28.setCell ⟨E, 3, none⟩ (.int .i64 p27)).frozen? ⟨w.heap.size, 0, none⟩ = false := HS.out.a.f 0
          have y1 : (w28.setCell ⟨E, 3, none⟩ (.int .i64 p27)).frozen? ⟨w.heap.size, 1, none⟩ = false := HS.out.a.f 1
          have y2 : (w28.setCell ⟨E, 3, none⟩ (.int .i64 p27)).frozen? ⟨w.heap.size, 2, none⟩ = false := HS.out.a.f 2
          have y3 : (w28.setCell ⟨E, 3, none⟩ (.int .i64 p27)).frozen? ⟨w.heap.size, 3, none⟩ = false := HS.out.a.f 3
          have y4 : (w28.setCell ⟨E, 3, none⟩ (.int .i64 p27)).frozen? ⟨w.heap.size, 4, none⟩ = false := HS.out.a.f 4
          go_wp2_with fail
          exact bodyPost_ret (v := .agg #[.int .i64 k, .int .i64 0, .int .i64 a, .int .i64 p27, .int .i64 x]) (by simp [results, Try.results15, go_sem, z0, z1, z2, z3, z4]) rfl ⟨k, 0, a, p27, x, rfl, HS.out.fin5 _ _ _ _ _⟩
    · have HS := Lib.hid (HS.out.s 0 (.int .i64 2))
      go_wp2_with fail
      clear c0 d0 c1 d1 c2 d2 c3 d3 c4 d4
      refine (once_any _ _ _ HS.out.rd (by omega) (by omega)).mono ?_
      rintro e w30 ⟨b29, rfl, hg, hr⟩
      have HS := Lib.hid (HS.out.step hg hr)
      clear hg hr
      cases b29
      · have c0 : w30.cell? ⟨E, 0, none⟩ = some (.int .i64 2) := HS.out.b.c 0 rfl
        have c1 : w30.cell? ⟨E, 1, none⟩ = some (.int .i64 0) := HS.out.b.c 1 rfl
        have c2 : w30.cell? ⟨E, 2, none⟩ = some (.int .i64 a) := HS.out.b.c 2 rfl
        have c3 : w30.cell? ⟨E, 3, none⟩ = some (.int .i64 f) := HS.out.b.c 3 rfl
        have c4 : w30.cell? ⟨E, 4, none⟩ = some (.int .i64 x) := HS.out.b.c 4 rfl
        have d0 : w30.frozen? ⟨E, 0, none⟩ = false := HS.out.b.f 0
        have d1 : w30.frozen? ⟨E, 1, none⟩ = false := HS.out.b.f 1
        have d2 : w30.frozen? ⟨E, 2, none⟩ = false := HS.out.b.f 2
        have d3 : w30.frozen? ⟨E, 3, none⟩ = false := HS.out.b.f 3
        have d4 : w30.frozen? ⟨E, 4, none⟩ = false := HS.out.b.f 4
        have z0 : w30.cell? ⟨w.heap.size, 0, none⟩ = some (.int .i64 0) := HS.out.a.c 0 rfl
        have z1 : w30.cell? ⟨w.heap.size, 1, none⟩ = some (.int .i64 0) := HS.out.a.c 1 rfl
        have z2 : w30.cell? ⟨w.heap.size, 2, none⟩ = some (.int .i64 0) := HS.out.a.c 2 rfl
        have z3 : w30.cell? ⟨w.heap.size, 3, none⟩ = some (.int .i64 0) := HS.out.a.c 3 rfl
        have z4 : w30.cell? ⟨w.heap.size, 4, none⟩ = some (.int .i64 0) := HS.out.a.c 4 rfl
        have y0 : w30.frozen? ⟨w.heap.size, 0, none⟩ = false := HS.out.a.f 0
        have y1 : w30.frozen? ⟨w.heap.size, 1, none⟩ = false := HS.out.a.f 1
        have y2 : w30.frozen? ⟨w.heap.size, 2, none⟩ = false := HS.out.a.f 2
        have y3 : w30.frozen? ⟨w.heap.size, 3, none⟩ = false := HS.out.a.f 3
        have y4 : w30.frozen? ⟨w.heap.size, 4, none⟩ = false := HS.out.a.f 4
        go_wp2_with fail
        exact bodyPost_ret (v := .agg #[.int .i64 2, .int .i64 0, .int .i64 a, .int .i64 f, .int .i64 x]) (by simp [results, Try.results15, go_sem, z0, z1, z2, z3, z4]) rfl ⟨2, 0, a, f, x, rfl, HS.out.fin5 _ _ _ _ _⟩
      · have c0 : w30.cell? ⟨E, 0, none⟩ = some (.int .i64 2) := HS.out.b.c 0 rfl
        have c1 : w30.cell? ⟨E, 1, none⟩ = some (.int .i64 0) := HS.out.b.c 1 rfl
        have c2 : w30.cell? ⟨E, 2, none⟩ = some (.int .i64 a) := HS.out.b.c 2 rfl
        have c3 : w30.cell? ⟨E, 3, none⟩ = some (.int .i64 f) := HS.out.b.c 3 rfl
        have c4 : w30.cell? ⟨E, 4, none⟩ = some (.int .i64 x) := HS.out.b.c 4 rfl
        have d0 : w30.frozen? ⟨E, 0, none⟩ = false := HS.out.b.f 0
        have d1 : w30.frozen? ⟨E, 1, none⟩ = false := HS.out.b.f 1
        have d2 : w30.frozen? ⟨E, 2, none⟩ = false := HS.out.b.f 2
        have d3 : w30.frozen? ⟨E, 3, none⟩ = false := HS.out.b.f 3
        have d4 : w30.frozen? ⟨E, 4, none⟩ = false := HS.out.b.f 4
        go_wp2_with fail
        refine (off_w _ _ _ _ HS.out.rd (by omega) (wf_of (by omega) (by omega))).mono ?_
        rintro e w32 ⟨p31, _, rfl, hg, hr⟩
        have HS := Lib.hid (HS.out.step hg hr)
        clear hg hr
        clear c0 d0 c1 d1 c2 d2 c3 d3 c4 d4
        have c0 : w32.cell? ⟨E, 0, none⟩ = some (.int .i64 2) := HS.out.b.c 0 rfl
        have c1 : w32.cell? ⟨E, 1, none⟩ = some (.int .i64 0) := HS.out.b.c 1 rfl
        have c2 : w32.cell? ⟨E, 2, none⟩ = some (.int .i64 a) := HS.out.b.c 2 rfl
        have c3 : w32.cell? ⟨E, 3, none⟩ = some (.int .i64 f) := HS.out.b.c 3 rfl
        have c4 : w32.cell? ⟨E, 4, none⟩ = some (.int .i64 x) := HS.out.b.c 4 rfl
        have d0 : w32.frozen? ⟨E, 0, none⟩ = false := HS.out.b.f 0
        have d1 : w32.frozen? ⟨E, 1, none⟩ = false := HS.out.b.f 1
        have d2 : w32.frozen? ⟨E, 2, none⟩ = false := HS.out.b.f 2
        have d3 : w32.frozen? ⟨E, 3, none⟩ = false := HS.out.b.f 3
        have d4 : w32.frozen? ⟨E, 4, none⟩ = false := HS.out.b.f 4
        have HS := Lib.hid (HS.out.s 3 (.int .i64 p31))
        have z0 : (w32.setCell ⟨E, 3, none⟩ (.int .i64 p31)).cell? ⟨w.heap.size, 0, none⟩ = some (.int .i64 0) := HS.out.a.c 0 rfl
        have z1 : (w32.setCell ⟨E, 3, none⟩ (.int .i64 p31)).cell? ⟨w.heap.size, 1, none⟩ = some (.int .i64 0) := HS.out.a.c 1 rfl
        have z2 : (w32.setCell ⟨E, 3, none⟩ (.int .i64 p31)).cell? ⟨w.heap.size, 2, none⟩ = some (.int .i64 0) := HS.out.a.c 2 rfl
        have z3 : (w32.setCell ⟨E, 3, none⟩ (.int .i64 p31)).cell? ⟨w.heap.size, 3, none⟩ = some (.int .i64 0) := HS.out.a.c 3 rfl
        have z4 : (w32.setCell ⟨E, 3, none⟩ (.int .i64 p31)).cell? ⟨w.heap.size, 4, none⟩ = some (.int .i64 0) := HS.out.a.c 4 rfl
        have y0 : (w32.setCell ⟨E, 3, none⟩ (.int .i64 p31)).frozen? ⟨w.heap.size, 0, none⟩ = false := HS.out.a.f 0
        have y1 : (w32.setCell ⟨E, 3, none⟩ (.int .i64 p31)).frozen? ⟨w.heap.size, 1, none⟩ = false := HS.out.a.f 1
        have y2 : (w32.setCell ⟨E, 3, none⟩ (.int .i64 p31)).frozen? ⟨w.heap.size, 2, none⟩ = false := HS.out.a.f 2
        have y3 : (w32.setCell ⟨E, 3, none⟩ (.int .i64 p31)).frozen? ⟨w.heap.size, 3, none⟩ = false := HS.out.a.f 3
        have y4 : (w32.setCell ⟨E, 3, none⟩ (.int .i64 p31)).frozen? ⟨w.heap.size, 4, none⟩ = false := HS.out.a.f 4
        go_wp2_with fail
        exact bodyPost_ret (v := .agg #[.int .i64 2, .int .i64 0, .int .i64 a, .int .i64 p31, .int .i64 x]) (by simp [results, Try.results15, go_sem, z0, z1, z2, z3, z4]) rfl ⟨2, 0, a, p31, x, rfl, HS.out.fin5 _ _ _ _ _⟩

end Go.Proofs.Ytklbnpnngfoecaa
