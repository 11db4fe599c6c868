/- Wx -/
import Derived.Test.YtedhemllgpbheaaQ26
import Derived.Test.YtedhemllgpbheaaQ28
namespace Go.Proofs.Ytedhemllgpbheaa
open Go.RowKit
open P7 (Pk PkAt pksV)

section
variable {w W W' : World} {B : Nat} {X : List Nat} {bs : List (Nat × TypeId × Array Value)} {sa : Option Addr} {sc : Nat} {sl : List Rg} {ga : Option Addr} {gc : Nat} {gl : List Pk} {da : Option Addr} {dc : Nat} {dl : List Rg} {ua : Option Addr} {uc : Nat} {ul : List Nt} {na : Option Addr} {nc : Nat} {nl : List Nt}
theorem Sw.stN {x : Nt} (h : Sw w B X bs sa sc sl ga gc gl da dc dl ua uc ul na nc nl W) (hx : StN w X da ua na x) (hg : w.grownBy W none) : StN W (bs.map (·.1) ++ X) da ua na x :=
  ⟨hx.1.kept hg, fun b hb => Nat.lt_of_lt_of_le (hx.2.lt b hb) hg.size, fun b hb hm => by
    rcases List.mem_append.mp hm with hm | hm
    · obtain ⟨y, hy, e⟩ := List.mem_map.mp hm
      have h1 := h.lo y hy
      have h2 := hx.2.lt b hb
      omega
    · exact hx.2.x b hb hm, hx.2.d, hx.2.u, hx.2.n⟩
theorem Sw.heard {sa' : Option Addr} {sc' : Nat} {sl' : List Rg} (h : Sw w B X bs sa sc sl ga gc gl da dc dl ua uc ul na nc nl W) (hg : W.grownBy W' none) (hr : RowOk W' sa' sc' sl') (hl : ∀ b, bkA sa' = some b → b < W'.heap.size) (hb : BrN W sa sc sl sa' sc' sl') : Sw w B X bs sa' sc' sl' ga gc gl da dc dl ua uc ul na nc nl W' := by
  rcases hb.2 with ⟨rfl, rfl, rfl⟩ | hf
  · exact h.keep hg
  · exact ⟨fun x hx => (h.b x hx).keep hg, (h.l.kept hg).setS hr (h.l.fresh fun b hb => ⟨hf b hb, hl b hb⟩), h.k.kept hg, h.lo, h.nd, h.hB, h.hX⟩
end

set_option maxRecDepth 100000 in
set_option maxHeartbeats 8000000 in
theorem up_S (t m y z p d o g u n : Int) (sa : Option Addr) (sc : Nat) (sl : List Rg) (ga : Option Addr) (gc : Nat) (gl : List Pk) (da : Option Addr) (dc : Nat) (dl : List Rg) (ua : Option Addr) (uc : Nat) (ul : List Nt) (na : Option Addr) (nc : Nat) (nl : List Nt) (xk xf xn : Int) (xa : Option Addr) (xc : Nat) (xl : List Rg) (w : World) (B : Nat) (X : List Nat) (h : LwAt w B X sa sc sl ga gc gl da dc dl ua uc ul na nc nl) (hB : B ≤ w.heap.size) (hd : dl.length ≤ 1000) (hu : ul.length ≤ 1000) (hn : nl.length ≤ 900) (hsl : sl.length ≤ 1000) (hgl : gl.length ≤ 900) (hum : ∀ x ∈ ul, x.l.length ≤ 3) (hnm : ∀ x ∈ nl, x.l.length ≤ 3) (hx : StN w X da ua na ⟨xk, xf, xn, xa, xc, xl⟩) (hxl : xl.length ≤ 3) (hrn : rnOk ⟨m, y, z, p, d, o, g⟩ = true) (hu0 : 0 ≤ u) (hun : u ≤ n) (hn9 : n ≤ 1000000000) (hxf0 : 0 ≤ xf) (hxf1 : xf ≤ 1000000000) :
    Calls Try.prog 41 #[.agg #[.int .i64 t, .int .i64 m, .int .i64 y, .int .i64 z, .int .i64 p, .int .i64 d, .int .i64 o, .int .i64 g, .int .i64 u, .int .i64 n, .slice sa sl.length sc, .slice ga gl.length gc, .slice da dl.length dc, .slice ua ul.length uc, .slice na nl.length nc], .agg #[.int .i64 xk, .int .i64 xf, .int .i64 xn, .slice xa xl.length xc]] w (WPost w B X (dl.length + 1) ul.length (nl.length + 2)) := by
  obtain ⟨i1, ki, kz0, kz1, kz2⟩ := info_of infoNt
  have HF := Lib.hid (And.intro hrn (And.intro hu0 (And.intro hun (And.intro hn9 (And.intro hxf0 hxf1)))))
  clear hrn hu0 hun hn9 hxf0 hxf1
  have _ := And.intro hd (And.intro hu (And.intro hn (And.intro hsl (And.intro hgl (And.intro hum hnm)))))
  obtain ⟨C0, hC0⟩ : ∃ C, C = w.heap.size := ⟨_, rfl⟩
  obtain ⟨C1, hC1⟩ : ∃ C, C = w.heap.size + 1 := ⟨_, rfl⟩
  obtain ⟨C2, hC2⟩ : ∃ C, C = w.heap.size + 1 + 1 := ⟨_, rfl⟩
  have hg0 : w.grownBy (((w.alloc (.cells #[.int .i64 t, .int .i64 m, .int .i64 y, .int .i64 z, .int .i64 p, .int .i64 d, .int .i64 o, .int .i64 g, .int .i64 u, .int .i64 n, .slice sa sl.length sc, .slice ga gl.length gc, .slice da dl.length dc, .slice ua ul.length uc, .slice na nl.length nc] 53)).alloc (.cells #[.int .i64 xk, .int .i64 xf, .int .i64 xn, .slice xa xl.length xc] 33)).alloc (.cells #[.int .i64 0, .int .i64 0, .int .i64 0, .int .i64 0, .int .i64 0, .int .i64 0, .int .i64 0, .int .i64 0, .int .i64 0, .int .i64 0, .slice none 0 0, .slice none 0 0, .slice none 0 0, .slice none 0 0, .slice none 0 0] 53)) none := gA (gA (World.grownBy_alloc w _ none) _) _
  have HX0 := Lib.hid hx
  have k := ((((Sw.start h hB).new 53 #[.int .i64 t, .int .i64 m, .int .i64 y, .int .i64 z, .int .i64 p, .int .i64 d, .int .i64 o, .int .i64 g, .int .i64 u, .int .i64 n, .slice sa sl.length sc, .slice ga gl.length gc, .slice da dl.length dc, .slice ua ul.length uc, .slice na nl.length nc]).new 33 #[.int .i64 xk, .int .i64 xf, .int .i64 xn, .slice xa xl.length xc]).new 53 #[.int .i64 0, .int .i64 0, .int .i64 0, .int .i64 0, .int .i64 0, .int .i64 0, .int .i64 0, .int .i64 0, .int .i64 0, .int .i64 0, .slice none 0 0, .slice none 0 0, .slice none 0 0, .slice none 0 0, .slice none 0 0])
  simp only [World.size_alloc] at k
  rw [← hC2, ← hC1, ← hC0] at k
  have H0 := Lib.hid k
  clear k h hx
  go_enter Try.func41, Try.ntmps41
  go_upto_region 1 with fail
  try simp only [World.size_alloc]
  try rw [← hC2]
  try rw [← hC1]
  try rw [← hC0]
  clear hC0 hC1 hC2
  generalize (((w.alloc (.cells #[.int .i64 t, .int .i64 m, .int .i64 y, .int .i64 z, .int .i64 p, .int .i64 d, .int .i64 o, .int .i64 g, .int .i64 u, .int .i64 n, .slice sa sl.length sc, .slice ga gl.length gc, .slice da dl.length dc, .slice ua ul.length uc, .slice na nl.length nc] 53)).alloc (.cells #[.int .i64 xk, .int .i64 xf, .int .i64 xn, .slice xa xl.length xc] 33)).alloc (.cells #[.int .i64 0, .int .i64 0, .int .i64 0, .int .i64 0, .int .i64 0, .int .i64 0, .int .i64 0, .int .i64 0, .int .i64 0, .int .i64 0, .slice none 0 0, .slice none 0 0, .slice none 0 0, .slice none 0 0, .slice none 0 0] 53)) = W0 at *
  have HX := Lib.hid (H0.out.stN HX0.out hg0)
  clear hg0 HX0
  have hsz := H0.out.k.size
  have c14 : (W0).cell? ⟨C0, 14, none⟩ = some (.slice na nl.length nc) := H0.out.b2.c 14 rfl
  have q0 : (W0).cell? ⟨C1, 0, none⟩ = some (.int .i64 xk) := H0.out.b1.c 0 rfl
  have q1 : (W0).cell? ⟨C1, 1, none⟩ = some (.int .i64 xf) := H0.out.b1.c 1 rfl
  have q2 : (W0).cell? ⟨C1, 2, none⟩ = some (.int .i64 xn) := H0.out.b1.c 2 rfl
  have q3 : (W0).cell? ⟨C1, 3, none⟩ = some (.slice xa xl.length xc) := H0.out.b1.c 3 rfl
  have HO := Lib.hid (H0.out.l.kept (World.grownBy_alloc W0 (.cells #[.int .i64 xk, .int .i64 xf, .int .i64 xn, .slice xa xl.length xc] 33) none)).n
  go_wp2_with (at_builtin; refine wpList_append_lies _ rfl _ _ 24 rfl B 33 i1 _ 4 48 Try.underlying24 ki kz0 kz1 kz2 rfl (by decide) _ _ _ rfl HO.out ⟨W0.heap.size, 0, none⟩ 1 1 [.int .i64 xk, .int .i64 xf, .int .i64 xn, .slice xa xl.length xc] rfl rfl ?d1 ?d2 (by decide) ?d3 ?d4 ?d5 (W0.heap.size + 1) (by simp) ?_)
  case d1 => exact World.news_of_block (World.alloc_heap_new W0 _)
  case d2 => intro u hu; simp only [List.mem_cons, List.not_mem_nil, or_false] at hu; rcases hu with rfl | rfl | rfl | rfl <;> rfl
  case d3 => unfold maxLen; omega
  case d4 => omega
  case d5 => simp only [World.size_alloc]; omega
  intro g1 cc1 w1 hr hg hat hlt
  obtain ⟨nl2, hnl2⟩ : ∃ q, q = nl ++ [(⟨xk, xf, xn, xa, xc, xl⟩ : Nt)] := ⟨_, rfl⟩
  have hl2 : nl.length + 1 = nl2.length := by simp [hnl2]
  have k := ((H0.out.keep (World.grownBy_alloc _ _ _)).pushN (x := ⟨xk, xf, xn, xa, xc, xl⟩) hr hg hat (by simp) (HX.out.of (World.grownBy_alloc W0 (.cells #[.int .i64 xk, .int .i64 xf, .int .i64 xn, .slice xa xl.length xc] 33) none).size fun b hb => (World.grownBy_alloc W0 (.cells #[.int .i64 xk, .int .i64 xf, .int .i64 xn, .slice xa xl.length xc] 33) none).block b (HX.out.2.lt b hb) (by simp)))
  rw [← hnl2] at k
  have H1 := Lib.hid k
  have HN2 := Lib.hid (And.intro hnl2 hl2)
  rw [hl2]
  clear k hnl2 hl2 hr hg hat HO c14 q0 q1 q2 q3
  have c14 : (w1).cell? ⟨C0, 14, none⟩ = some (.slice na nl.length nc) := H1.out.b2.c 14 rfl
  have f14 := H1.out.b2.f 14
  have k1_14 : Sw w B X [(C2, 53, #[.int .i64 0, .int .i64 0, .int .i64 0, .int .i64 0, .int .i64 0, .int .i64 0, .int .i64 0, .int .i64 0, .int .i64 0, .int .i64 0, .slice none 0 0, .slice none 0 0, .slice none 0 0, .slice none 0 0, .slice none 0 0]), (C1, 33, #[.int .i64 xk, .int .i64 xf, .int .i64 xn, .slice xa xl.length xc]), (C0, 53, #[.int .i64 t, .int .i64 m, .int .i64 y, .int .i64 z, .int .i64 p, .int .i64 d, .int .i64 o, .int .i64 g, .int .i64 u, .int .i64 n, .slice sa sl.length sc, .slice ga gl.length gc, .slice da dl.length dc, .slice ua ul.length uc, .slice (some ⟨g1, 0, none⟩) nl2.length cc1])] sa sc sl ga gc gl da dc dl ua uc ul (some ⟨g1, 0, none⟩) cc1 nl2 (w1.setCell ⟨C0, 14, none⟩ (.slice (some ⟨g1, 0, none⟩) nl2.length cc1)) := H1.out.p2 14 (.slice (some ⟨g1, 0, none⟩) nl2.length cc1)
  have H2 := Lib.hid k1_14
  clear k1_14
  go_upto_region 2 with fail
  clear c14 f14 hlt H1 H0
  generalize (w1.setCell ⟨C0, 14, none⟩ (.slice (some ⟨g1, 0, none⟩) nl2.length cc1)) = w2 at *
  have hsz2 := H2.out.k.size
  have c1 : (w2).cell? ⟨C0, 1, none⟩ = some (.int .i64 m) := H2.out.b2.c 1 rfl
  have c2 : (w2).cell? ⟨C0, 2, none⟩ = some (.int .i64 y) := H2.out.b2.c 2 rfl
  have c3 : (w2).cell? ⟨C0, 3, none⟩ = some (.int .i64 z) := H2.out.b2.c 3 rfl
  have c4 : (w2).cell? ⟨C0, 4, none⟩ = some (.int .i64 p) := H2.out.b2.c 4 rfl
  have c5 : (w2).cell? ⟨C0, 5, none⟩ = some (.int .i64 d) := H2.out.b2.c 5 rfl
  have c6 : (w2).cell? ⟨C0, 6, none⟩ = some (.int .i64 o) := H2.out.b2.c 6 rfl
  have c7 : (w2).cell? ⟨C0, 7, none⟩ = some (.int .i64 g) := H2.out.b2.c 7 rfl
  have c8 : (w2).cell? ⟨C0, 8, none⟩ = some (.int .i64 u) := H2.out.b2.c 8 rfl
  have c9 : (w2).cell? ⟨C0, 9, none⟩ = some (.int .i64 n) := H2.out.b2.c 9 rfl
  have c10 : (w2).cell? ⟨C0, 10, none⟩ = some (.slice sa sl.length sc) := H2.out.b2.c 10 rfl
  have q0 : (w2).cell? ⟨C1, 0, none⟩ = some (.int .i64 xk) := H2.out.b1.c 0 rfl
  have q1 : (w2).cell? ⟨C1, 1, none⟩ = some (.int .i64 xf) := H2.out.b1.c 1 rfl
  have q2 : (w2).cell? ⟨C1, 2, none⟩ = some (.int .i64 xn) := H2.out.b1.c 2 rfl
  have q3 : (w2).cell? ⟨C1, 3, none⟩ = some (.slice xa xl.length xc) := H2.out.b1.c 3 rfl
  go_wp2_with fail
  refine (heard_S u n sa sc sl m y z p d o g xk xf xn xa xc xl w2 H2.out.l.s H2.out.l.ss.lt hsl (H2.out.l.ns ⟨xk, xf, xn, xa, xc, xl⟩ (by rw [HN2.out.1]; simp)).1.at (by omega) HF.out.1 HF.out.2.1 HF.out.2.2.1 HF.out.2.2.2.1 HF.out.2.2.2.2.1 HF.out.2.2.2.2.2).mono ?_
  rintro e w3 ⟨u2, n2, sa2, sc2, sl2, m2, y2, z2, p2, d2, o2, g2, b, rfl, hg, hr, hl, hb⟩
  have H3 := Lib.hid (H2.out.heard hg hr hl hb)
  have hsl2 := hb.1
  clear hg hr hl hb H2 c1 c2 c3 c4 c5 c6 c7 c8 c9 c10 q0 q1 q2 q3
  have k := (H3.out.new 50 #[.int .i64 u2, .int .i64 n2, .slice sa2 sl2.length sc2]).new 48 #[.int .i64 m2, .int .i64 y2, .int .i64 z2, .int .i64 p2, .int .i64 d2, .int .i64 o2, .int .i64 g2]
  simp only [World.size_alloc] at k
  have H4 := Lib.hid k
  clear k
  go_upto_region 3 with fail
  try simp only [World.size_alloc]
  clear H3
  generalize (w3.alloc (.cells #[.int .i64 u2, .int .i64 n2, .slice sa2 sl2.length sc2] 50)).alloc (.cells #[.int .i64 m2, .int .i64 y2, .int .i64 z2, .int .i64 p2, .int .i64 d2, .int .i64 o2, .int .i64 g2] 48) = w4 at *
  generalize w3.heap.size + 1 = C4 at *
  generalize w3.heap.size = C3 at *
  have q0 : (w4).cell? ⟨C3, 0, none⟩ = some (.int .i64 u2) := H4.out.b1.c 0 rfl
  have q1 : (w4).cell? ⟨C3, 1, none⟩ = some (.int .i64 n2) := H4.out.b1.c 1 rfl
  have q2 : (w4).cell? ⟨C3, 2, none⟩ = some (.slice sa2 sl2.length sc2) := H4.out.b1.c 2 rfl
  have c8 : (w4).cell? ⟨C0, 8, none⟩ = some (.int .i64 u) := H4.out.b4.c 8 rfl
  have c9 : (w4).cell? ⟨C0, 9, none⟩ = some (.int .i64 n) := H4.out.b4.c 9 rfl
  have c10 : (w4).cell? ⟨C0, 10, none⟩ = some (.slice sa sl.length sc) := H4.out.b4.c 10 rfl
  have f8 := H4.out.b4.f 8
  have f9 := H4.out.b4.f 9
  have f10 := H4.out.b4.f 10
  have lr := H4.out.b4.lt
  have k2_8 : Sw w B X [(C4, 48, #[.int .i64 m2, .int .i64 y2, .int .i64 z2, .int .i64 p2, .int .i64 d2, .int .i64 o2, .int .i64 g2]), (C3, 50, #[.int .i64 u2, .int .i64 n2, .slice sa2 sl2.length sc2]), (C2, 53, #[.int .i64 0, .int .i64 0, .int .i64 0, .int .i64 0, .int .i64 0, .int .i64 0, .int .i64 0, .int .i64 0, .int .i64 0, .int .i64 0, .slice none 0 0, .slice none 0 0, .slice none 0 0, .slice none 0 0, .slice none 0 0]), (C1, 33, #[.int .i64 xk, .int .i64 xf, .int .i64 xn, .slice xa xl.length xc]), (C0, 53, #[.int .i64 t, .int .i64 m, .int .i64 y, .int .i64 z, .int .i64 p, .int .i64 d, .int .i64 o, .int .i64 g, .int .i64 u2, .int .i64 n, .slice sa sl.length sc, .slice ga gl.length gc, .slice da dl.length dc, .slice ua ul.length uc, .slice (some ⟨g1, 0, none⟩) nl2.length cc1])] sa2 sc2 sl2 ga gc gl da dc dl ua uc ul (some ⟨g1, 0, none⟩) cc1 nl2 (w4.setCell ⟨C0, 8, none⟩ (.int .i64 u2)) := H4.out.p4 8 (.int .i64 u2)
  have k2_9 : Sw w B X [(C4, 48, #[.int .i64 m2, .int .i64 y2, .int .i64 z2, .int .i64 p2, .int .i64 d2, .int .i64 o2, .int .i64 g2]), (C3, 50, #[.int .i64 u2, .int .i64 n2, .slice sa2 sl2.length sc2]), (C2, 53, #[.int .i64 0, .int .i64 0, .int .i64 0, .int .i64 0, .int .i64 0, .int .i64 0, .int .i64 0, .int .i64 0, .int .i64 0, .int .i64 0, .slice none 0 0, .slice none 0 0, .slice none 0 0, .slice none 0 0, .slice none 0 0]), (C1, 33, #[.int .i64 xk, .int .i64 xf, .int .i64 xn, .slice xa xl.length xc]), (C0, 53, #[.int .i64 t, .int .i64 m, .int .i64 y, .int .i64 z, .int .i64 p, .int .i64 d, .int .i64 o, .int .i64 g, .int .i64 u2, .int .i64 n2, .slice sa sl.length sc, .slice ga gl.length gc, .slice da dl.length dc, .slice ua ul.length uc, .slice (some ⟨g1, 0, none⟩) nl2.length cc1])] sa2 sc2 sl2 ga gc gl da dc dl ua uc ul (some ⟨g1, 0, none⟩) cc1 nl2 ((w4.setCell ⟨C0, 8, none⟩ (.int .i64 u2)).setCell ⟨C0, 9, none⟩ (.int .i64 n2)) := k2_8.p4 9 (.int .i64 n2)
  have k2_10 : Sw w B X [(C4, 48, #[.int .i64 m2, .int .i64 y2, .int .i64 z2, .int .i64 p2, .int .i64 d2, .int .i64 o2, .int .i64 g2]), (C3, 50, #[.int .i64 u2, .int .i64 n2, .slice sa2 sl2.length sc2]), (C2, 53, #[.int .i64 0, .int .i64 0, .int .i64 0, .int .i64 0, .int .i64 0, .int .i64 0, .int .i64 0, .int .i64 0, .int .i64 0, .int .i64 0, .slice none 0 0, .slice none 0 0, .slice none 0 0, .slice none 0 0, .slice none 0 0]), (C1, 33, #[.int .i64 xk, .int .i64 xf, .int .i64 xn, .slice xa xl.length xc]), (C0, 53, #[.int .i64 t, .int .i64 m, .int .i64 y, .int .i64 z, .int .i64 p, .int .i64 d, .int .i64 o, .int .i64 g, .int .i64 u2, .int .i64 n2, .slice sa2 sl2.length sc2, .slice ga gl.length gc, .slice da dl.length dc, .slice ua ul.length uc, .slice (some ⟨g1, 0, none⟩) nl2.length cc1])] sa2 sc2 sl2 ga gc gl da dc dl ua uc ul (some ⟨g1, 0, none⟩) cc1 nl2 (((w4.setCell ⟨C0, 8, none⟩ (.int .i64 u2)).setCell ⟨C0, 9, none⟩ (.int .i64 n2)).setCell ⟨C0, 10, none⟩ (.slice sa2 sl2.length sc2)) := k2_9.p4 10 (.slice sa2 sl2.length sc2)
  have H5 := Lib.hid k2_10
  clear k2_8 k2_9 k2_10
  go_upto_region 4 with fail
  clear lr H4 q0 q1 q2 c8 f8 c9 f9 c10 f10
  generalize (((w4.setCell ⟨C0, 8, none⟩ (.int .i64 u2)).setCell ⟨C0, 9, none⟩ (.int .i64 n2)).setCell ⟨C0, 10, none⟩ (.slice sa2 sl2.length sc2)) = w5 at *
  have q0 : (w5).cell? ⟨C4, 0, none⟩ = some (.int .i64 m2) := H5.out.b0.c 0 rfl
  have q1 : (w5).cell? ⟨C4, 1, none⟩ = some (.int .i64 y2) := H5.out.b0.c 1 rfl
  have q2 : (w5).cell? ⟨C4, 2, none⟩ = some (.int .i64 z2) := H5.out.b0.c 2 rfl
  have q3 : (w5).cell? ⟨C4, 3, none⟩ = some (.int .i64 p2) := H5.out.b0.c 3 rfl
  have q4 : (w5).cell? ⟨C4, 4, none⟩ = some (.int .i64 d2) := H5.out.b0.c 4 rfl
  have q5 : (w5).cell? ⟨C4, 5, none⟩ = some (.int .i64 o2) := H5.out.b0.c 5 rfl
  have q6 : (w5).cell? ⟨C4, 6, none⟩ = some (.int .i64 g2) := H5.out.b0.c 6 rfl
  have c1 : (w5).cell? ⟨C0, 1, none⟩ = some (.int .i64 m) := H5.out.b4.c 1 rfl
  have c2 : (w5).cell? ⟨C0, 2, none⟩ = some (.int .i64 y) := H5.out.b4.c 2 rfl
  have c3 : (w5).cell? ⟨C0, 3, none⟩ = some (.int .i64 z) := H5.out.b4.c 3 rfl
  have c4 : (w5).cell? ⟨C0, 4, none⟩ = some (.int .i64 p) := H5.out.b4.c 4 rfl
  have c5 : (w5).cell? ⟨C0, 5, none⟩ = some (.int .i64 d) := H5.out.b4.c 5 rfl
  have c6 : (w5).cell? ⟨C0, 6, none⟩ = some (.int .i64 o) := H5.out.b4.c 6 rfl
  have c7 : (w5).cell? ⟨C0, 7, none⟩ = some (.int .i64 g) := H5.out.b4.c 7 rfl
  have f1 := H5.out.b4.f 1
  have f2 := H5.out.b4.f 2
  have f3 := H5.out.b4.f 3
  have f4 := H5.out.b4.f 4
  have f5 := H5.out.b4.f 5
  have f6 := H5.out.b4.f 6
  have f7 := H5.out.b4.f 7
  have lr := H5.out.b4.lt
  have k3_1 : Sw w B X [(C4, 48, #[.int .i64 m2, .int .i64 y2, .int .i64 z2, .int .i64 p2, .int .i64 d2, .int .i64 o2, .int .i64 g2]), (C3, 50, #[.int .i64 u2, .int .i64 n2, .slice sa2 sl2.length sc2]), (C2, 53, #[.int .i64 0, .int .i64 0, .int .i64 0, .int .i64 0, .int .i64 0, .int .i64 0, .int .i64 0, .int .i64 0, .int .i64 0, .int .i64 0, .slice none 0 0, .slice none 0 0, .slice none 0 0, .slice none 0 0, .slice none 0 0]), (C1, 33, #[.int .i64 xk, .int .i64 xf, .int .i64 xn, .slice xa xl.length xc]), (C0, 53, #[.int .i64 t, .int .i64 m2, .int .i64 y, .int .i64 z, .int .i64 p, .int .i64 d, .int .i64 o, .int .i64 g, .int .i64 u2, .int .i64 n2, .slice sa2 sl2.length sc2, .slice ga gl.length gc, .slice da dl.length dc, .slice ua ul.length uc, .slice (some ⟨g1, 0, none⟩) nl2.length cc1])] sa2 sc2 sl2 ga gc gl da dc dl ua uc ul (some ⟨g1, 0, none⟩) cc1 nl2 (w5.setCell ⟨C0, 1, none⟩ (.int .i64 m2)) := H5.out.p4 1 (.int .i64 m2)
  have k3_2 : Sw w B X [(C4, 48, #[.int .i64 m2, .int .i64 y2, .int .i64 z2, .int .i64 p2, .int .i64 d2, .int .i64 o2, .int .i64 g2]), (C3, 50, #[.int .i64 u2, .int .i64 n2, .slice sa2 sl2.length sc2]), (C2, 53, #[.int .i64 0, .int .i64 0, .int .i64 0, .int .i64 0, .int .i64 0, .int .i64 0, .int .i64 0, .int .i64 0, .int .i64 0, .int .i64 0, .slice none 0 0, .slice none 0 0, .slice none 0 0, .slice none 0 0, .slice none 0 0]), (C1, 33, #[.int .i64 xk, .int .i64 xf, .int .i64 xn, .slice xa xl.length xc]), (C0, 53, #[.int .i64 t, .int .i64 m2, .int .i64 y2, .int .i64 z, .int .i64 p, .int .i64 d, .int .i64 o, .int .i64 g, .int .i64 u2, .int .i64 n2, .slice sa2 sl2.length sc2, .slice ga gl.length gc, .slice da dl.length dc, .slice ua ul.length uc, .slice (some ⟨g1, 0, none⟩) nl2.length cc1])] sa2 sc2 sl2 ga gc gl da dc dl ua uc ul (some ⟨g1, 0, none⟩) cc1 nl2 ((w5.setCell ⟨C0, 1, none⟩ (.int .i64 m2)).setCell ⟨C0, 2, none⟩ (.int .i64 y2)) := k3_1.p4 2 (.int .i64 y2)
  have k3_3 : Sw w B X [(C4, 48, #[.int .i64 m2, .int .i64 y2, .int .i64 z2, .int .i64 p2, .int .i64 d2, .int .i64 o2, .int .i64 g2]), (C3, 50, #[.int .i64 u2, .int .i64 n2, .slice sa2 sl2.length sc2]), (C2, 53, #[.int .i64 0, .int .i64 0, .int .i64 0, .int .i64 0, .int .i64 0, .int .i64 0, .int .i64 0, .int .i64 0, .int .i64 0, .int .i64 0, .slice none 0 0, .slice none 0 0, .slice none 0 0, .slice none 0 0, .slice none 0 0]), (C1, 33, #[.int .i64 xk, .int .i64 xf, .int .i64 xn, .slice xa xl.length xc]), (C0, 53, #[.int .i64 t, .int .i64 m2, .int .i64 y2, .int .i64 z2, .int .i64 p, .int .i64 d, .int .i64 o, .int .i64 g, .int .i64 u2, .int .i64 n2, .slice sa2 sl2.length sc2, .slice ga gl.length gc, .slice da dl.length dc, .slice ua ul.length uc, .slice (some ⟨g1, 0, none⟩) nl2.length cc1])] sa2 sc2 sl2 ga gc gl da dc dl ua uc ul (some ⟨g1, 0, none⟩) cc1 nl2 (((w5.setCell ⟨C0, 1, none⟩ (.int .i64 m2)).setCell ⟨C0, 2, none⟩ (.int .i64 y2)).setCell ⟨C0, 3, none⟩ (.int .i64 z2)) := k3_2.p4 3 (.int .i64 z2)
  have k3_4 : Sw w B X [(C4, 48, #[.int .i64 m2, .int .i64 y2, .int .i64 z2, .int .i64 p2, .int .i64 d2, .int .i64 o2, .int .i64 g2]), (C3, 50, #[.int .i64 u2, .int .i64 n2, .slice sa2 sl2.length sc2]), (C2, 53, #[.int .i64 0, .int .i64 0, .int .i64 0, .int .i64 0, .int .i64 0, .int .i64 0, .int .i64 0, .int .i64 0, .int .i64 0, .int .i64 0, .slice none 0 0, .slice none 0 0, .slice none 0 0, .slice none 0 0, .slice none 0 0]), (C1, 33, #[.int .i64 xk, .int .i64 xf, .int .i64 xn, .slice xa xl.length xc]), (C0, 53, #[.int .i64 t, .int .i64 m2, .int .i64 y2, .int .i64 z2, .int .i64 p2, .int .i64 d, .int .i64 o, .int .i64 g, .int .i64 u2, .int .i64 n2, .slice sa2 sl2.length sc2, .slice ga gl.length gc, .slice da dl.length dc, .slice ua ul.length uc, .slice (some ⟨g1, 0, none⟩) nl2.length cc1])] sa2 sc2 sl2 ga gc gl da dc dl ua uc ul (some ⟨g1, 0, none⟩) cc1 nl2 ((((w5.setCell ⟨C0, 1, none⟩ (.int .i64 m2)).setCell ⟨C0, 2, none⟩ (.int .i64 y2)).setCell ⟨C0, 3, none⟩ (.int .i64 z2)).setCell ⟨C0, 4, none⟩ (.int .i64 p2)) := k3_3.p4 4 (.int .i64 p2)
  have k3_5 : Sw w B X [(C4, 48, #[.int .i64 m2, .int .i64 y2, .int .i64 z2, .int .i64 p2, .int .i64 d2, .int .i64 o2, .int .i64 g2]), (C3, 50, #[.int .i64 u2, .int .i64 n2, .slice sa2 sl2.length sc2]), (C2, 53, #[.int .i64 0, .int .i64 0, .int .i64 0, .int .i64 0, .int .i64 0, .int .i64 0, .int .i64 0, .int .i64 0, .int .i64 0, .int .i64 0, .slice none 0 0, .slice none 0 0, .slice none 0 0, .slice none 0 0, .slice none 0 0]), (C1, 33, #[.int .i64 xk, .int .i64 xf, .int .i64 xn, .slice xa xl.length xc]), (C0, 53, #[.int .i64 t, .int .i64 m2, .int .i64 y2, .int .i64 z2, .int .i64 p2, .int .i64 d2, .int .i64 o, .int .i64 g, .int .i64 u2, .int .i64 n2, .slice sa2 sl2.length sc2, .slice ga gl.length gc, .slice da dl.length dc, .slice ua ul.length uc, .slice (some ⟨g1, 0, none⟩) nl2.length cc1])] sa2 sc2 sl2 ga gc gl da dc dl ua uc ul (some ⟨g1, 0, none⟩) cc1 nl2 (((((w5.setCell ⟨C0, 1, none⟩ (.int .i64 m2)).setCell ⟨C0, 2, none⟩ (.int .i64 y2)).setCell ⟨C0, 3, none⟩ (.int .i64 z2)).setCell ⟨C0, 4, none⟩ (.int .i64 p2)).setCell ⟨C0, 5, none⟩ (.int .i64 d2)) := k3_4.p4 5 (.int .i64 d2)
  have k3_6 : Sw w B X [(C4, 48, #[.int .i64 m2, .int .i64 y2, .int .i64 z2, .int .i64 p2, .int .i64 d2, .int .i64 o2, .int .i64 g2]), (C3, 50, #[.int .i64 u2, .int .i64 n2, .slice sa2 sl2.length sc2]), (C2, 53, #[.int .i64 0, .int .i64 0, .int .i64 0, .int .i64 0, .int .i64 0, .int .i64 0, .int .i64 0, .int .i64 0, .int .i64 0, .int .i64 0, .slice none 0 0, .slice none 0 0, .slice none 0 0, .slice none 0 0, .slice none 0 0]), (C1, 33, #[.int .i64 xk, .int .i64 xf, .int .i64 xn, .slice xa xl.length xc]), (C0, 53, #[.int .i64 t, .int .i64 m2, .int .i64 y2, .int .i64 z2, .int .i64 p2, .int .i64 d2, .int .i64 o2, .int .i64 g, .int .i64 u2, .int .i64 n2, .slice sa2 sl2.length sc2, .slice ga gl.length gc, .slice da dl.length dc, .slice ua ul.length uc, .slice (some ⟨g1, 0, none⟩) nl2.length cc1])] sa2 sc2 sl2 ga gc gl da dc dl ua uc ul (some ⟨g1, 0, none⟩) cc1 nl2 ((((((w5.setCell ⟨C0, 1, none⟩ (.int .i64 m2)).setCell ⟨C0, 2, none⟩ (.int .i64 y2)).setCell ⟨C0, 3, none⟩ (.int .i64 z2)).setCell ⟨C0, 4, none⟩ (.int .i64 p2)).setCell ⟨C0, 5, none⟩ (.int .i64 d2)).setCell ⟨C0, 6, none⟩ (.int .i64 o2)) := k3_5.p4 6 (.int .i64 o2)
  have k3_7 : Sw w B X [(C4, 48, #[.int .i64 m2, .int .i64 y2, .int .i64 z2, .int .i64 p2, .int .i64 d2, .int .i64 o2, .int .i64 g2]), (C3, 50, #[.int .i64 u2, .int .i64 n2, .slice sa2 sl2.length sc2]), (C2, 53, #[.int .i64 0, .int .i64 0, .int .i64 0, .int .i64 0, .int .i64 0, .int .i64 0, .int .i64 0, .int .i64 0, .int .i64 0, .int .i64 0, .slice none 0 0, .slice none 0 0, .slice none 0 0, .slice none 0 0, .slice none 0 0]), (C1, 33, #[.int .i64 xk, .int .i64 xf, .int .i64 xn, .slice xa xl.length xc]), (C0, 53, #[.int .i64 t, .int .i64 m2, .int .i64 y2, .int .i64 z2, .int .i64 p2, .int .i64 d2, .int .i64 o2, .int .i64 g2, .int .i64 u2, .int .i64 n2, .slice sa2 sl2.length sc2, .slice ga gl.length gc, .slice da dl.length dc, .slice ua ul.length uc, .slice (some ⟨g1, 0, none⟩) nl2.length cc1])] sa2 sc2 sl2 ga gc gl da dc dl ua uc ul (some ⟨g1, 0, none⟩) cc1 nl2 (((((((w5.setCell ⟨C0, 1, none⟩ (.int .i64 m2)).setCell ⟨C0, 2, none⟩ (.int .i64 y2)).setCell ⟨C0, 3, none⟩ (.int .i64 z2)).setCell ⟨C0, 4, none⟩ (.int .i64 p2)).setCell ⟨C0, 5, none⟩ (.int .i64 d2)).setCell ⟨C0, 6, none⟩ (.int .i64 o2)).setCell ⟨C0, 7, none⟩ (.int .i64 g2)) := k3_6.p4 7 (.int .i64 g2)
  have H6 := Lib.hid k3_7
  clear k3_1 k3_2 k3_3 k3_4 k3_5 k3_6 k3_7
  go_upto_region 5 with fail
  clear lr H5 q0 q1 q2 q3 q4 q5 q6 c1 f1 c2 f2 c3 f3 c4 f4 c5 f5 c6 f6 c7 f7
  generalize (((((((w5.setCell ⟨C0, 1, none⟩ (.int .i64 m2)).setCell ⟨C0, 2, none⟩ (.int .i64 y2)).setCell ⟨C0, 3, none⟩ (.int .i64 z2)).setCell ⟨C0, 4, none⟩ (.int .i64 p2)).setCell ⟨C0, 5, none⟩ (.int .i64 d2)).setCell ⟨C0, 6, none⟩ (.int .i64 o2)).setCell ⟨C0, 7, none⟩ (.int .i64 g2)) = w6 at *
  have hsz6 := H6.out.k.size
  cases b
  · go_upto_region 7 with fail
    have oo0 : (w6).cell? ⟨C0, 0, none⟩ = some (.int .i64 t) := H6.out.b4.c 0 rfl
    have oo1 : (w6).cell? ⟨C0, 1, none⟩ = some (.int .i64 m2) := H6.out.b4.c 1 rfl
    have oo2 : (w6).cell? ⟨C0, 2, none⟩ = some (.int .i64 y2) := H6.out.b4.c 2 rfl
    have oo3 : (w6).cell? ⟨C0, 3, none⟩ = some (.int .i64 z2) := H6.out.b4.c 3 rfl
    have oo4 : (w6).cell? ⟨C0, 4, none⟩ = some (.int .i64 p2) := H6.out.b4.c 4 rfl
    have oo5 : (w6).cell? ⟨C0, 5, none⟩ = some (.int .i64 d2) := H6.out.b4.c 5 rfl
    have oo6 : (w6).cell? ⟨C0, 6, none⟩ = some (.int .i64 o2) := H6.out.b4.c 6 rfl
    have oo7 : (w6).cell? ⟨C0, 7, none⟩ = some (.int .i64 g2) := H6.out.b4.c 7 rfl
    have oo8 : (w6).cell? ⟨C0, 8, none⟩ = some (.int .i64 u2) := H6.out.b4.c 8 rfl
    have oo9 : (w6).cell? ⟨C0, 9, none⟩ = some (.int .i64 n2) := H6.out.b4.c 9 rfl
    have oo10 : (w6).cell? ⟨C0, 10, none⟩ = some (.slice sa2 sl2.length sc2) := H6.out.b4.c 10 rfl
    have oo11 : (w6).cell? ⟨C0, 11, none⟩ = some (.slice ga gl.length gc) := H6.out.b4.c 11 rfl
    have oo12 : (w6).cell? ⟨C0, 12, none⟩ = some (.slice da dl.length dc) := H6.out.b4.c 12 rfl
    have oo13 : (w6).cell? ⟨C0, 13, none⟩ = some (.slice ua ul.length uc) := H6.out.b4.c 13 rfl
    have oo14 : (w6).cell? ⟨C0, 14, none⟩ = some (.slice (some ⟨g1, 0, none⟩) nl2.length cc1) := H6.out.b4.c 14 rfl
    have r0 : (w6).cell? ⟨C2, 0, none⟩ = some (.int .i64 0) := H6.out.b2.c 0 rfl
    have r1 : (w6).cell? ⟨C2, 1, none⟩ = some (.int .i64 0) := H6.out.b2.c 1 rfl
    have r2 : (w6).cell? ⟨C2, 2, none⟩ = some (.int .i64 0) := H6.out.b2.c 2 rfl
    have r3 : (w6).cell? ⟨C2, 3, none⟩ = some (.int .i64 0) := H6.out.b2.c 3 rfl
    have r4 : (w6).cell? ⟨C2, 4, none⟩ = some (.int .i64 0) := H6.out.b2.c 4 rfl
    have r5 : (w6).cell? ⟨C2, 5, none⟩ = some (.int .i64 0) := H6.out.b2.c 5 rfl
    have r6 : (w6).cell? ⟨C2, 6, none⟩ = some (.int .i64 0) := H6.out.b2.c 6 rfl
    have r7 : (w6).cell? ⟨C2, 7, none⟩ = some (.int .i64 0) := H6.out.b2.c 7 rfl
    have r8 : (w6).cell? ⟨C2, 8, none⟩ = some (.int .i64 0) := H6.out.b2.c 8 rfl
    have r9 : (w6).cell? ⟨C2, 9, none⟩ = some (.int .i64 0) := H6.out.b2.c 9 rfl
    have r10 : (w6).cell? ⟨C2, 10, none⟩ = some (.slice none 0 0) := H6.out.b2.c 10 rfl
    have r11 : (w6).cell? ⟨C2, 11, none⟩ = some (.slice none 0 0) := H6.out.b2.c 11 rfl
    have r12 : (w6).cell? ⟨C2, 12, none⟩ = some (.slice none 0 0) := H6.out.b2.c 12 rfl
    have r13 : (w6).cell? ⟨C2, 13, none⟩ = some (.slice none 0 0) := H6.out.b2.c 13 rfl
    have r14 : (w6).cell? ⟨C2, 14, none⟩ = some (.slice none 0 0) := H6.out.b2.c 14 rfl
    have f0 := H6.out.b2.f 0
    have f1 := H6.out.b2.f 1
    have f2 := H6.out.b2.f 2
    have f3 := H6.out.b2.f 3
    have f4 := H6.out.b2.f 4
    have f5 := H6.out.b2.f 5
    have f6 := H6.out.b2.f 6
    have f7 := H6.out.b2.f 7
    have f8 := H6.out.b2.f 8
    have f9 := H6.out.b2.f 9
    have f10 := H6.out.b2.f 10
    have f11 := H6.out.b2.f 11
    have f12 := H6.out.b2.f 12
    have f13 := H6.out.b2.f 13
    have f14 := H6.out.b2.f 14
    have lr := H6.out.b2.lt
    obtain ⟨ys0, k0⟩ := (H6.out).any2 0 (.int .i64 t)
    obtain ⟨ys1, k1⟩ := (k0).any2 1 (.int .i64 m2)
    obtain ⟨ys2, k2⟩ := (k1).any2 2 (.int .i64 y2)
    obtain ⟨ys3, k3⟩ := (k2).any2 3 (.int .i64 z2)
    obtain ⟨ys4, k4⟩ := (k3).any2 4 (.int .i64 p2)
    obtain ⟨ys5, k5⟩ := (k4).any2 5 (.int .i64 d2)
    obtain ⟨ys6, k6⟩ := (k5).any2 6 (.int .i64 o2)
    obtain ⟨ys7, k7⟩ := (k6).any2 7 (.int .i64 g2)
    obtain ⟨ys8, k8⟩ := (k7).any2 8 (.int .i64 u2)
    obtain ⟨ys9, k9⟩ := (k8).any2 9 (.int .i64 n2)
    obtain ⟨ys10, k10⟩ := (k9).any2 10 (.slice sa2 sl2.length sc2)
    obtain ⟨ys11, k11⟩ := (k10).any2 11 (.slice ga gl.length gc)
    obtain ⟨ys12, k12⟩ := (k11).any2 12 (.slice da dl.length dc)
    obtain ⟨ys13, k13⟩ := (k12).any2 13 (.slice ua ul.length uc)
    obtain ⟨ys14, k14⟩ := (k13).any2 14 (.slice (some ⟨g1, 0, none⟩) nl2.length cc1)
    have HK := Lib.hid k14
    clear k0 k1 k2 k3 k4 k5 k6 k7 k8 k9 k10 k11 k12 k13 k14
    go_wp2_with fail
    refine bodyPost_ret (v := .agg #[.int .i64 t, .int .i64 m2, .int .i64 y2, .int .i64 z2, .int .i64 p2, .int .i64 d2, .int .i64 o2, .int .i64 g2, .int .i64 u2, .int .i64 n2, .slice sa2 sl2.length sc2, .slice ga gl.length gc, .slice da dl.length dc, .slice ua ul.length uc, .slice (some ⟨g1, 0, none⟩) nl2.length cc1]) (by simp [results, Try.results41, go_sem, r0, r1, r2, r3, r4, r5, r6, r7, r8, r9, r10, r11, r12, r13, r14]) rfl ?_
    refine ⟨⟨t, m2, y2, z2, p2, d2, o2, g2, u2, n2, sa2, sc2, sl2, ga, gc, gl, da, dc, dl, ua, uc, ul, some ⟨g1, 0, none⟩, cc1, nl2⟩, by simp [Wv.v], HK.out.fin.1, HK.out.fin.2, ?_⟩
    unfold Wv.le
    dsimp only
    exact ⟨by omega, by omega, by omega, Nat.le_refl _, by have := HN2.out.2; omega, hum, fun q hq => (List.mem_append.mp (HN2.out.1 ▸ hq)).elim (hnm q) fun e => by rw [List.mem_singleton.mp e]; exact hxl⟩
  · go_upto_region 6 with fail
    have c0 : (w6).cell? ⟨C0, 0, none⟩ = some (.int .i64 t) := H6.out.b4.c 0 rfl
    have c1 : (w6).cell? ⟨C0, 1, none⟩ = some (.int .i64 m2) := H6.out.b4.c 1 rfl
    have c2 : (w6).cell? ⟨C0, 2, none⟩ = some (.int .i64 y2) := H6.out.b4.c 2 rfl
    have c3 : (w6).cell? ⟨C0, 3, none⟩ = some (.int .i64 z2) := H6.out.b4.c 3 rfl
    have c4 : (w6).cell? ⟨C0, 4, none⟩ = some (.int .i64 p2) := H6.out.b4.c 4 rfl
    have c5 : (w6).cell? ⟨C0, 5, none⟩ = some (.int .i64 d2) := H6.out.b4.c 5 rfl
    have c6 : (w6).cell? ⟨C0, 6, none⟩ = some (.int .i64 o2) := H6.out.b4.c 6 rfl
    have c7 : (w6).cell? ⟨C0, 7, none⟩ = some (.int .i64 g2) := H6.out.b4.c 7 rfl
    have c8 : (w6).cell? ⟨C0, 8, none⟩ = some (.int .i64 u2) := H6.out.b4.c 8 rfl
    have c9 : (w6).cell? ⟨C0, 9, none⟩ = some (.int .i64 n2) := H6.out.b4.c 9 rfl
    have c10 : (w6).cell? ⟨C0, 10, none⟩ = some (.slice sa2 sl2.length sc2) := H6.out.b4.c 10 rfl
    have c11 : (w6).cell? ⟨C0, 11, none⟩ = some (.slice ga gl.length gc) := H6.out.b4.c 11 rfl
    have c12 : (w6).cell? ⟨C0, 12, none⟩ = some (.slice da dl.length dc) := H6.out.b4.c 12 rfl
    have c13 : (w6).cell? ⟨C0, 13, none⟩ = some (.slice ua ul.length uc) := H6.out.b4.c 13 rfl
    have c14 : (w6).cell? ⟨C0, 14, none⟩ = some (.slice (some ⟨g1, 0, none⟩) nl2.length cc1) := H6.out.b4.c 14 rfl
    go_wp2_with fail
    refine (send_S t m2 y2 z2 p2 d2 o2 g2 u2 n2 sa2 sc2 sl2 ga gc gl da dc dl ua uc ul (some ⟨g1, 0, none⟩) cc1 nl2 u2 w6 B (C4 :: C3 :: C2 :: C1 :: C0 :: X) H6.out.l (by omega) hd hu (by have := HN2.out.2; omega) (by omega) hgl hum (fun q hq => (List.mem_append.mp (HN2.out.1 ▸ hq)).elim (hnm q) fun e => by rw [List.mem_singleton.mp e]; exact hxl)).mono ?_
    rintro e w7 ⟨⟨t3, m3, y3, z3, p3, d3, o3, g3, u3, n3, sa3, sc3, sl3, ga3, gc3, gl3, da3, dc3, dl3, ua3, uc3, ul3, na3, nc3, nl3⟩, rfl, ha, hk, hle⟩
    have H7 := Lib.hid (H6.out.call ha hk)
    have HLE := Lib.hid hle
    clear ha hk hle
    dsimp only [Wv.v]
    dsimp only [Wv.le] at HLE
    clear c0 c1 c2 c3 c4 c5 c6 c7 c8 c9 c10 c11 c12 c13 c14
    have r0 : (w7).cell? ⟨C2, 0, none⟩ = some (.int .i64 0) := H7.out.b2.c 0 rfl
    have r1 : (w7).cell? ⟨C2, 1, none⟩ = some (.int .i64 0) := H7.out.b2.c 1 rfl
    have r2 : (w7).cell? ⟨C2, 2, none⟩ = some (.int .i64 0) := H7.out.b2.c 2 rfl
    have r3 : (w7).cell? ⟨C2, 3, none⟩ = some (.int .i64 0) := H7.out.b2.c 3 rfl
    have r4 : (w7).cell? ⟨C2, 4, none⟩ = some (.int .i64 0) := H7.out.b2.c 4 rfl
    have r5 : (w7).cell? ⟨C2, 5, none⟩ = some (.int .i64 0) := H7.out.b2.c 5 rfl
    have r6 : (w7).cell? ⟨C2, 6, none⟩ = some (.int .i64 0) := H7.out.b2.c 6 rfl
    have r7 : (w7).cell? ⟨C2, 7, none⟩ = some (.int .i64 0) := H7.out.b2.c 7 rfl
    have r8 : (w7).cell? ⟨C2, 8, none⟩ = some (.int .i64 0) := H7.out.b2.c 8 rfl
    have r9 : (w7).cell? ⟨C2, 9, none⟩ = some (.int .i64 0) := H7.out.b2.c 9 rfl
    have r10 : (w7).cell? ⟨C2, 10, none⟩ = some (.slice none 0 0) := H7.out.b2.c 10 rfl
    have r11 : (w7).cell? ⟨C2, 11, none⟩ = some (.slice none 0 0) := H7.out.b2.c 11 rfl
    have r12 : (w7).cell? ⟨C2, 12, none⟩ = some (.slice none 0 0) := H7.out.b2.c 12 rfl
    have r13 : (w7).cell? ⟨C2, 13, none⟩ = some (.slice none 0 0) := H7.out.b2.c 13 rfl
    have r14 : (w7).cell? ⟨C2, 14, none⟩ = some (.slice none 0 0) := H7.out.b2.c 14 rfl
    have f0 := H7.out.b2.f 0
    have f1 := H7.out.b2.f 1
    have f2 := H7.out.b2.f 2
    have f3 := H7.out.b2.f 3
    have f4 := H7.out.b2.f 4
    have f5 := H7.out.b2.f 5
    have f6 := H7.out.b2.f 6
    have f7 := H7.out.b2.f 7
    have f8 := H7.out.b2.f 8
    have f9 := H7.out.b2.f 9
    have f10 := H7.out.b2.f 10
    have f11 := H7.out.b2.f 11
    have f12 := H7.out.b2.f 12
    have f13 := H7.out.b2.f 13
    have f14 := H7.out.b2.f 14
    have lr := H7.out.b2.lt
    obtain ⟨ys0, k0⟩ := (H7.out).any2 0 (.int .i64 t3)
    obtain ⟨ys1, k1⟩ := (k0).any2 1 (.int .i64 m3)
    obtain ⟨ys2, k2⟩ := (k1).any2 2 (.int .i64 y3)
    obtain ⟨ys3, k3⟩ := (k2).any2 3 (.int .i64 z3)
    obtain ⟨ys4, k4⟩ := (k3).any2 4 (.int .i64 p3)
    obtain ⟨ys5, k5⟩ := (k4).any2 5 (.int .i64 d3)
    obtain ⟨ys6, k6⟩ := (k5).any2 6 (.int .i64 o3)
    obtain ⟨ys7, k7⟩ := (k6).any2 7 (.int .i64 g3)
    obtain ⟨ys8, k8⟩ := (k7).any2 8 (.int .i64 u3)
    obtain ⟨ys9, k9⟩ := (k8).any2 9 (.int .i64 n3)
    obtain ⟨ys10, k10⟩ := (k9).any2 10 (.slice sa3 sl3.length sc3)
    obtain ⟨ys11, k11⟩ := (k10).any2 11 (.slice ga3 gl3.length gc3)
    obtain ⟨ys12, k12⟩ := (k11).any2 12 (.slice da3 dl3.length dc3)
    obtain ⟨ys13, k13⟩ := (k12).any2 13 (.slice ua3 ul3.length uc3)
    obtain ⟨ys14, k14⟩ := (k13).any2 14 (.slice na3 nl3.length nc3)
    have HK := Lib.hid k14
    clear k0 k1 k2 k3 k4 k5 k6 k7 k8 k9 k10 k11 k12 k13 k14
    go_wp2_with fail
    refine bodyPost_ret (v := .agg #[.int .i64 t3, .int .i64 m3, .int .i64 y3, .int .i64 z3, .int .i64 p3, .int .i64 d3, .int .i64 o3, .int .i64 g3, .int .i64 u3, .int .i64 n3, .slice sa3 sl3.length sc3, .slice ga3 gl3.length gc3, .slice da3 dl3.length dc3, .slice ua3 ul3.length uc3, .slice na3 nl3.length nc3]) (by simp [results, Try.results41, go_sem, r0, r1, r2, r3, r4, r5, r6, r7, r8, r9, r10, r11, r12, r13, r14]) rfl ?_
    refine ⟨⟨t3, m3, y3, z3, p3, d3, o3, g3, u3, n3, sa3, sc3, sl3, ga3, gc3, gl3, da3, dc3, dl3, ua3, uc3, ul3, na3, nc3, nl3⟩, by simp [Wv.v], HK.out.fin.1, HK.out.fin.2, ?_⟩
    unfold Wv.le
    dsimp only
    exact ⟨HLE.out.1, HLE.out.2.1, HLE.out.2.2.1, HLE.out.2.2.2.1, by have := HLE.out.2.2.2.2.1; have := HN2.out.2; omega, HLE.out.2.2.2.2.2.1, HLE.out.2.2.2.2.2.2⟩

end Go.Proofs.Ytedhemllgpbheaa

