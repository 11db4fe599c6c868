/- Wo -/
import Derived.Test.YtedhemllgpbheaaQ27
namespace Go.Proofs.Ytedhemllgpbheaa
open Go.RowKit
open P7 (Pk PkAt pksV)

set_option maxRecDepth 100000 in
set_option maxHeartbeats 4000000 in
theorem late_S (t m y z p d o g u n : Int) (sa : Option Addr) (sc : Nat) (sl : List Rg) (ga : Option Addr) (gc : Nat) (gl : List Pk) (da : Option Addr) (dc : Nat) (dl : List Rg) (ua : Option Addr) (uc : Nat) (ul : List Nt) (na : Option Addr) (nc : Nat) (nl : List Nt) (w : World) (B : Nat) (X : List Nat) (h : LwAt w B X sa sc sl ga gc gl da dc dl ua uc ul na nc nl) (hB : B ≤ w.heap.size) (hd : dl.length ≤ 1000) (hu : ul.length ≤ 1000) (hn : nl.length ≤ 1000) (hsl : sl.length ≤ 1000) (hgl : gl.length ≤ 900) (hum : ∀ x ∈ ul, x.l.length ≤ 3) (hnm : ∀ x ∈ nl, x.l.length ≤ 3) (hrn : rnOk ⟨m, y, z, p, d, o, g⟩ = true) (hu0 : 0 ≤ u) (hun : u ≤ n) (hn9 : n ≤ 1000000000) :
    Calls Try.prog 42 #[.agg #[.int .i64 t, .int .i64 m, .int .i64 y, .int .i64 z, .int .i64 p, .int .i64 d, .int .i64 o, .int .i64 g, .int .i64 u, .int .i64 n, .slice sa sl.length sc, .slice ga gl.length gc, .slice da dl.length dc, .slice ua ul.length uc, .slice na nl.length nc]] w (WPost w B X (dl.length + 1) ul.length (nl.length + 1)) := by
  have _ := And.intro hd (And.intro hu (And.intro hn (And.intro hsl (And.intro hgl (And.intro hum hnm)))))
  obtain ⟨C0, hC0⟩ : ∃ C, C = w.heap.size := ⟨_, rfl⟩
  obtain ⟨C1, hC1⟩ : ∃ C, C = w.heap.size + 1 := ⟨_, rfl⟩
  have k := (((Sw.start h hB).new 53 #[.int .i64 t, .int .i64 m, .int .i64 y, .int .i64 z, .int .i64 p, .int .i64 d, .int .i64 o, .int .i64 g, .int .i64 u, .int .i64 n, .slice sa sl.length sc, .slice ga gl.length gc, .slice da dl.length dc, .slice ua ul.length uc, .slice na nl.length nc]).new 53 #[.int .i64 0, .int .i64 0, .int .i64 0, .int .i64 0, .int .i64 0, .int .i64 0, .int .i64 0, .int .i64 0, .int .i64 0, .int .i64 0, .slice none 0 0, .slice none 0 0, .slice none 0 0, .slice none 0 0, .slice none 0 0])
  simp only [World.size_alloc] at k
  rw [← hC1, ← hC0] at k
  have H0 := Lib.hid k
  clear k h
  go_enter Try.func42, Try.ntmps42
  go_upto_region 1 with fail
  try simp only [World.size_alloc]
  try rw [← hC1]
  try rw [← hC0]
  clear hC0 hC1
  generalize ((w.alloc (.cells #[.int .i64 t, .int .i64 m, .int .i64 y, .int .i64 z, .int .i64 p, .int .i64 d, .int .i64 o, .int .i64 g, .int .i64 u, .int .i64 n, .slice sa sl.length sc, .slice ga gl.length gc, .slice da dl.length dc, .slice ua ul.length uc, .slice na nl.length nc] 53)).alloc (.cells #[.int .i64 0, .int .i64 0, .int .i64 0, .int .i64 0, .int .i64 0, .int .i64 0, .int .i64 0, .int .i64 0, .int .i64 0, .int .i64 0, .slice none 0 0, .slice none 0 0, .slice none 0 0, .slice none 0 0, .slice none 0 0] 53)) = W0 at *
  have hw : IntKind.i64.wrap (n - u) = n - u := IntWalk.i64_in _ (by omega)
  have hev : evOk ⟨3, 0, 0, n - u, n⟩ = true := by simp [evOk]; omega
  have c1 := H0.out.b1.c 1 rfl
  have c2 := H0.out.b1.c 2 rfl
  have c3 := H0.out.b1.c 3 rfl
  have c4 := H0.out.b1.c 4 rfl
  have c5 := H0.out.b1.c 5 rfl
  have c6 := H0.out.b1.c 6 rfl
  have c7 := H0.out.b1.c 7 rfl
  have c8 := H0.out.b1.c 8 rfl
  have c9 := H0.out.b1.c 9 rfl
  go_wp2_with fail
  refine (rs_stepL m y z p d o g 3 0 0 (n - u) n _ hrn hev).mono ?_
  rintro e w1 ⟨rfl, hg⟩
  have H1 := Lib.hid (H0.out.keep hg)
  clear hg H0 hev hw hrn c1 c2 c3 c4 c5 c6 c7 c8 c9
  generalize rnStep ⟨m, y, z, p, d, o, g⟩ ⟨3, 0, 0, n - u, n⟩ = Q at *
  obtain ⟨m2, y2, z2, p2, d2, o2, g2⟩ := Q
  dsimp only [rnV]
  have c1 := H1.out.b1.c 1 rfl
  have c2 := H1.out.b1.c 2 rfl
  have c3 := H1.out.b1.c 3 rfl
  have c4 := H1.out.b1.c 4 rfl
  have c5 := H1.out.b1.c 5 rfl
  have c6 := H1.out.b1.c 6 rfl
  have c7 := H1.out.b1.c 7 rfl
  have f1 := H1.out.b1.f 1
  have f2 := H1.out.b1.f 2
  have f3 := H1.out.b1.f 3
  have f4 := H1.out.b1.f 4
  have f5 := H1.out.b1.f 5
  have f6 := H1.out.b1.f 6
  have f7 := H1.out.b1.f 7
  have lr := H1.out.b1.lt
  have k1 : Sw w B X [(C1, 53, #[.int .i64 0, .int .i64 0, .int .i64 0, .int .i64 0, .int .i64 0, .int .i64 0, .int .i64 0, .int .i64 0, .int .i64 0, .int .i64 0, .slice none 0 0, .slice none 0 0, .slice none 0 0, .slice none 0 0, .slice none 0 0]), (C0, 53, #[.int .i64 t, .int .i64 m2, .int .i64 y, .int .i64 z, .int .i64 p, .int .i64 d, .int .i64 o, .int .i64 g, .int .i64 u, .int .i64 n, .slice sa sl.length sc, .slice ga gl.length gc, .slice da dl.length dc, .slice ua ul.length uc, .slice na nl.length nc])] sa sc sl ga gc gl da dc dl ua uc ul na nc nl (w1.setCell ⟨C0, 1, none⟩ (.int .i64 m2)) := Sw.put [(C1, 53, #[.int .i64 0, .int .i64 0, .int .i64 0, .int .i64 0, .int .i64 0, .int .i64 0, .int .i64 0, .int .i64 0, .int .i64 0, .int .i64 0, .slice none 0 0, .slice none 0 0, .slice none 0 0, .slice none 0 0, .slice none 0 0])] H1.out 1 (.int .i64 m2) rfl
  have k2 : Sw w B X [(C1, 53, #[.int .i64 0, .int .i64 0, .int .i64 0, .int .i64 0, .int .i64 0, .int .i64 0, .int .i64 0, .int .i64 0, .int .i64 0, .int .i64 0, .slice none 0 0, .slice none 0 0, .slice none 0 0, .slice none 0 0, .slice none 0 0]), (C0, 53, #[.int .i64 t, .int .i64 m2, .int .i64 y2, .int .i64 z, .int .i64 p, .int .i64 d, .int .i64 o, .int .i64 g, .int .i64 u, .int .i64 n, .slice sa sl.length sc, .slice ga gl.length gc, .slice da dl.length dc, .slice ua ul.length uc, .slice na nl.length nc])] sa sc sl ga gc gl da dc dl ua uc ul na nc nl ((w1.setCell ⟨C0, 1, none⟩ (.int .i64 m2)).setCell ⟨C0, 2, none⟩ (.int .i64 y2)) := Sw.put [(C1, 53, #[.int .i64 0, .int .i64 0, .int .i64 0, .int .i64 0, .int .i64 0, .int .i64 0, .int .i64 0, .int .i64 0, .int .i64 0, .int .i64 0, .slice none 0 0, .slice none 0 0, .slice none 0 0, .slice none 0 0, .slice none 0 0])] k1 2 (.int .i64 y2) rfl
  have k3 : Sw w B X [(C1, 53, #[.int .i64 0, .int .i64 0, .int .i64 0, .int .i64 0, .int .i64 0, .int .i64 0, .int .i64 0, .int .i64 0, .int .i64 0, .int .i64 0, .slice none 0 0, .slice none 0 0, .slice none 0 0, .slice none 0 0, .slice none 0 0]), (C0, 53, #[.int .i64 t, .int .i64 m2, .int .i64 y2, .int .i64 z2, .int .i64 p, .int .i64 d, .int .i64 o, .int .i64 g, .int .i64 u, .int .i64 n, .slice sa sl.length sc, .slice ga gl.length gc, .slice da dl.length dc, .slice ua ul.length uc, .slice na nl.length nc])] sa sc sl ga gc gl da dc dl ua uc ul na nc nl (((w1.setCell ⟨C0, 1, none⟩ (.int .i64 m2)).setCell ⟨C0, 2, none⟩ (.int .i64 y2)).setCell ⟨C0, 3, none⟩ (.int .i64 z2)) := Sw.put [(C1, 53, #[.int .i64 0, .int .i64 0, .int .i64 0, .int .i64 0, .int .i64 0, .int .i64 0, .int .i64 0, .int .i64 0, .int .i64 0, .int .i64 0, .slice none 0 0, .slice none 0 0, .slice none 0 0, .slice none 0 0, .slice none 0 0])] k2 3 (.int .i64 z2) rfl
  have k4 : Sw w B X [(C1, 53, #[.int .i64 0, .int .i64 0, .int .i64 0, .int .i64 0, .int .i64 0, .int .i64 0, .int .i64 0, .int .i64 0, .int .i64 0, .int .i64 0, .slice none 0 0, .slice none 0 0, .slice none 0 0, .slice none 0 0, .slice none 0 0]), (C0, 53, #[.int .i64 t, .int .i64 m2, .int .i64 y2, .int .i64 z2, .int .i64 p2, .int .i64 d, .int .i64 o, .int .i64 g, .int .i64 u, .int .i64 n, .slice sa sl.length sc, .slice ga gl.length gc, .slice da dl.length dc, .slice ua ul.length uc, .slice na nl.length nc])] sa sc sl ga gc gl da dc dl ua uc ul na nc nl ((((w1.setCell ⟨C0, 1, none⟩ (.int .i64 m2)).setCell ⟨C0, 2, none⟩ (.int .i64 y2)).setCell ⟨C0, 3, none⟩ (.int .i64 z2)).setCell ⟨C0, 4, none⟩ (.int .i64 p2)) := Sw.put [(C1, 53, #[.int .i64 0, .int .i64 0, .int .i64 0, .int .i64 0, .int .i64 0, .int .i64 0, .int .i64 0, .int .i64 0, .int .i64 0, .int .i64 0, .slice none 0 0, .slice none 0 0, .slice none 0 0, .slice none 0 0, .slice none 0 0])] k3 4 (.int .i64 p2) rfl
  have k5 : Sw w B X [(C1, 53, #[.int .i64 0, .int .i64 0, .int .i64 0, .int .i64 0, .int .i64 0, .int .i64 0, .int .i64 0, .int .i64 0, .int .i64 0, .int .i64 0, .slice none 0 0, .slice none 0 0, .slice none 0 0, .slice none 0 0, .slice none 0 0]), (C0, 53, #[.int .i64 t, .int .i64 m2, .int .i64 y2, .int .i64 z2, .int .i64 p2, .int .i64 d2, .int .i64 o, .int .i64 g, .int .i64 u, .int .i64 n, .slice sa sl.length sc, .slice ga gl.length gc, .slice da dl.length dc, .slice ua ul.length uc, .slice na nl.length nc])] sa sc sl ga gc gl da dc dl ua uc ul na nc nl (((((w1.setCell ⟨C0, 1, none⟩ (.int .i64 m2)).setCell ⟨C0, 2, none⟩ (.int .i64 y2)).setCell ⟨C0, 3, none⟩ (.int .i64 z2)).setCell ⟨C0, 4, none⟩ (.int .i64 p2)).setCell ⟨C0, 5, none⟩ (.int .i64 d2)) := Sw.put [(C1, 53, #[.int .i64 0, .int .i64 0, .int .i64 0, .int .i64 0, .int .i64 0, .int .i64 0, .int .i64 0, .int .i64 0, .int .i64 0, .int .i64 0, .slice none 0 0, .slice none 0 0, .slice none 0 0, .slice none 0 0, .slice none 0 0])] k4 5 (.int .i64 d2) rfl
  have k6 : Sw w B X [(C1, 53, #[.int .i64 0, .int .i64 0, .int .i64 0, .int .i64 0, .int .i64 0, .int .i64 0, .int .i64 0, .int .i64 0, .int .i64 0, .int .i64 0, .slice none 0 0, .slice none 0 0, .slice none 0 0, .slice none 0 0, .slice none 0 0]), (C0, 53, #[.int .i64 t, .int .i64 m2, .int .i64 y2, .int .i64 z2, .int .i64 p2, .int .i64 d2, .int .i64 o2, .int .i64 g, .int .i64 u, .int .i64 n, .slice sa sl.length sc, .slice ga gl.length gc, .slice da dl.length dc, .slice ua ul.length uc, .slice na nl.length nc])] sa sc sl ga gc gl da dc dl ua uc ul na nc nl ((((((w1.setCell ⟨C0, 1, none⟩ (.int .i64 m2)).setCell ⟨C0, 2, none⟩ (.int .i64 y2)).setCell ⟨C0, 3, none⟩ (.int .i64 z2)).setCell ⟨C0, 4, none⟩ (.int .i64 p2)).setCell ⟨C0, 5, none⟩ (.int .i64 d2)).setCell ⟨C0, 6, none⟩ (.int .i64 o2)) := Sw.put [(C1, 53, #[.int .i64 0, .int .i64 0, .int .i64 0, .int .i64 0, .int .i64 0, .int .i64 0, .int .i64 0, .int .i64 0, .int .i64 0, .int .i64 0, .slice none 0 0, .slice none 0 0, .slice none 0 0, .slice none 0 0, .slice none 0 0])] k5 6 (.int .i64 o2) rfl
  have k7 : Sw w B X [(C1, 53, #[.int .i64 0, .int .i64 0, .int .i64 0, .int .i64 0, .int .i64 0, .int .i64 0, .int .i64 0, .int .i64 0, .int .i64 0, .int .i64 0, .slice none 0 0, .slice none 0 0, .slice none 0 0, .slice none 0 0, .slice none 0 0]), (C0, 53, #[.int .i64 t, .int .i64 m2, .int .i64 y2, .int .i64 z2, .int .i64 p2, .int .i64 d2, .int .i64 o2, .int .i64 g2, .int .i64 u, .int .i64 n, .slice sa sl.length sc, .slice ga gl.length gc, .slice da dl.length dc, .slice ua ul.length uc, .slice na nl.length nc])] sa sc sl ga gc gl da dc dl ua uc ul na nc nl (((((((w1.setCell ⟨C0, 1, none⟩ (.int .i64 m2)).setCell ⟨C0, 2, none⟩ (.int .i64 y2)).setCell ⟨C0, 3, none⟩ (.int .i64 z2)).setCell ⟨C0, 4, none⟩ (.int .i64 p2)).setCell ⟨C0, 5, none⟩ (.int .i64 d2)).setCell ⟨C0, 6, none⟩ (.int .i64 o2)).setCell ⟨C0, 7, none⟩ (.int .i64 g2)) := Sw.put [(C1, 53, #[.int .i64 0, .int .i64 0, .int .i64 0, .int .i64 0, .int .i64 0, .int .i64 0, .int .i64 0, .int .i64 0, .int .i64 0, .int .i64 0, .slice none 0 0, .slice none 0 0, .slice none 0 0, .slice none 0 0, .slice none 0 0])] k6 7 (.int .i64 g2) rfl
  have H2 := Lib.hid k7
  clear k1 k2 k3 k4 k5 k6 k7
  go_upto_region 2 with fail
  clear lr H1 c1 f1 c2 f2 c3 f3 c4 f4 c5 f5 c6 f6 c7 f7
  generalize (((((((w1.setCell ⟨C0, 1, none⟩ (.int .i64 m2)).setCell ⟨C0, 2, none⟩ (.int .i64 y2)).setCell ⟨C0, 3, none⟩ (.int .i64 z2)).setCell ⟨C0, 4, none⟩ (.int .i64 p2)).setCell ⟨C0, 5, none⟩ (.int .i64 d2)).setCell ⟨C0, 6, none⟩ (.int .i64 o2)).setCell ⟨C0, 7, none⟩ (.int .i64 g2)) = w2 at *
  have hsz2 := H2.out.k.size
  have c0 := H2.out.b1.c 0 rfl
  have c1 := H2.out.b1.c 1 rfl
  have c2 := H2.out.b1.c 2 rfl
  have c3 := H2.out.b1.c 3 rfl
  have c4 := H2.out.b1.c 4 rfl
  have c5 := H2.out.b1.c 5 rfl
  have c6 := H2.out.b1.c 6 rfl
  have c7 := H2.out.b1.c 7 rfl
  have c8 := H2.out.b1.c 8 rfl
  have c9 := H2.out.b1.c 9 rfl
  have c10 := H2.out.b1.c 10 rfl
  have c11 := H2.out.b1.c 11 rfl
  have c12 := H2.out.b1.c 12 rfl
  have c13 := H2.out.b1.c 13 rfl
  have c14 := H2.out.b1.c 14 rfl
  go_wp2_with fail
  refine (send_S t m2 y2 z2 p2 d2 o2 g2 u n sa sc sl ga gc gl da dc dl ua uc ul na nc nl u w2 B (C1 :: C0 :: X) H2.out.l (by omega) hd hu hn hsl hgl hum hnm).mono ?_
  rintro e w3 ⟨⟨t3, m3, y3, z3, p3, d3, o3, g3, u3, n3, sa3, sc3, sl3, ga3, gc3, gl3, da3, dc3, dl3, ua3, uc3, ul3, na3, nc3, nl3⟩, rfl, ha, hk, hle⟩
  have H3 := Lib.hid (H2.out.call ha hk)
  have HLE := Lib.hid hle
  clear ha hk hle
  dsimp only [Wv.v]
  dsimp only [Wv.le] at HLE
  clear c0 c1 c2 c3 c4 c5 c6 c7 c8 c9 c10 c11 c12 c13 c14
  have r0 := H3.out.b0.c 0 rfl
  have r1 := H3.out.b0.c 1 rfl
  have r2 := H3.out.b0.c 2 rfl
  have r3 := H3.out.b0.c 3 rfl
  have r4 := H3.out.b0.c 4 rfl
  have r5 := H3.out.b0.c 5 rfl
  have r6 := H3.out.b0.c 6 rfl
  have r7 := H3.out.b0.c 7 rfl
  have r8 := H3.out.b0.c 8 rfl
  have r9 := H3.out.b0.c 9 rfl
  have r10 := H3.out.b0.c 10 rfl
  have r11 := H3.out.b0.c 11 rfl
  have r12 := H3.out.b0.c 12 rfl
  have r13 := H3.out.b0.c 13 rfl
  have r14 := H3.out.b0.c 14 rfl
  have f0 := H3.out.b0.f 0
  have f1 := H3.out.b0.f 1
  have f2 := H3.out.b0.f 2
  have f3 := H3.out.b0.f 3
  have f4 := H3.out.b0.f 4
  have f5 := H3.out.b0.f 5
  have f6 := H3.out.b0.f 6
  have f7 := H3.out.b0.f 7
  have f8 := H3.out.b0.f 8
  have f9 := H3.out.b0.f 9
  have f10 := H3.out.b0.f 10
  have f11 := H3.out.b0.f 11
  have f12 := H3.out.b0.f 12
  have f13 := H3.out.b0.f 13
  have f14 := H3.out.b0.f 14
  have lr := H3.out.b0.lt
  obtain ⟨ys0, k0⟩ := (H3.out).any0 0 (.int .i64 t3)
  obtain ⟨ys1, k1⟩ := (k0).any0 1 (.int .i64 m3)
  obtain ⟨ys2, k2⟩ := (k1).any0 2 (.int .i64 y3)
  obtain ⟨ys3, k3⟩ := (k2).any0 3 (.int .i64 z3)
  obtain ⟨ys4, k4⟩ := (k3).any0 4 (.int .i64 p3)
  obtain ⟨ys5, k5⟩ := (k4).any0 5 (.int .i64 d3)
  obtain ⟨ys6, k6⟩ := (k5).any0 6 (.int .i64 o3)
  obtain ⟨ys7, k7⟩ := (k6).any0 7 (.int .i64 g3)
  obtain ⟨ys8, k8⟩ := (k7).any0 8 (.int .i64 u3)
  obtain ⟨ys9, k9⟩ := (k8).any0 9 (.int .i64 n3)
  obtain ⟨ys10, k10⟩ := (k9).any0 10 (.slice sa3 sl3.length sc3)
  obtain ⟨ys11, k11⟩ := (k10).any0 11 (.slice ga3 gl3.length gc3)
  obtain ⟨ys12, k12⟩ := (k11).any0 12 (.slice da3 dl3.length dc3)
  obtain ⟨ys13, k13⟩ := (k12).any0 13 (.slice ua3 ul3.length uc3)
  obtain ⟨ys14, k14⟩ := (k13).any0 14 (.slice na3 nl3.length nc3)
  have HK := Lib.hid k14
  clear k0 k1 k2 k3 k4 k5 k6 k7 k8 k9 k10 k11 k12 k13 k14
  go_wp2_with fail
  refine bodyPost_ret (v := .agg #[.int .i64 t3, .int .i64 m3, .int .i64 y3, .int .i64 z3, .int .i64 p3, .int .i64 d3, .int .i64 o3, .int .i64 g3, .int .i64 u3, .int .i64 n3, .slice sa3 sl3.length sc3, .slice ga3 gl3.length gc3, .slice da3 dl3.length dc3, .slice ua3 ul3.length uc3, .slice na3 nl3.length nc3]) (by simp [results, Try.results42, go_sem, r0, r1, r2, r3, r4, r5, r6, r7, r8, r9, r10, r11, r12, r13, r14]) rfl ?_
  refine ⟨⟨t3, m3, y3, z3, p3, d3, o3, g3, u3, n3, sa3, sc3, sl3, ga3, gc3, gl3, da3, dc3, dl3, ua3, uc3, ul3, na3, nc3, nl3⟩, by simp [Wv.v], HK.out.fin.1, HK.out.fin.2, ?_⟩
  unfold Wv.le
  dsimp only
  exact ⟨HLE.out.1, HLE.out.2.1, HLE.out.2.2.1, HLE.out.2.2.2.1, HLE.out.2.2.2.2.1, HLE.out.2.2.2.2.2.1, HLE.out.2.2.2.2.2.2⟩

end Go.Proofs.Ytedhemllgpbheaa

