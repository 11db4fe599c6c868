/- Wk -/
import Derived.Test.YtedhemllgpbheaaQ23
import Derived.Deep.DeepCutAuto
import Derived.LoopTactic
namespace Go.Proofs.Ytedhemllgpbheaa
open Go.RowKit
open P7 (Pk PkAt pksV)

set_option maxRecDepth 100000 in
set_option maxHeartbeats 4000000 in
theorem send_S (t m y z p d o g u n : Int) (sa : Option Addr) (sc : Nat) (sl : List Rg) (ga : Option Addr) (gc : Nat) (gl : List Pk) (da : Option Addr) (dc : Nat) (dl : List Rg) (ua : Option Addr) (uc : Nat) (ul : List Nt) (na : Option Addr) (nc : Nat) (nl : List Nt) (f : Int) (w : World) (B : Nat) (X : List Nat) (h : LwAt w B X sa sc sl ga gc gl da dc dl ua uc ul na nc nl) (hB : B ≤ w.heap.size) (hd : dl.length ≤ 1000) (hu : ul.length ≤ 1000) (hn : nl.length ≤ 1000) (hsl : sl.length ≤ 1000) (hgl : gl.length ≤ 900) (hum : ∀ x ∈ ul, x.l.length ≤ 3) (hnm : ∀ x ∈ nl, x.l.length ≤ 3) :
    Calls Try.prog 46 #[.agg #[.int .i64 t, .int .i64 m, .int .i64 y, .int .i64 z, .int .i64 p, .int .i64 d, .int .i64 o, .int .i64 g, .int .i64 u, .int .i64 n, .slice sa sl.length sc, .slice ga gl.length gc, .slice da dl.length dc, .slice ua ul.length uc, .slice na nl.length nc], .int .i64 f] w (WPost w B X (dl.length + 1) ul.length (nl.length + 1)) := by
  obtain ⟨i0, hi, hz0, hz1, hz2⟩ := info_of infoRg
  obtain ⟨i1, ki, kz0, kz1, kz2⟩ := info_of infoNt
  have _ := And.intro hd (And.intro hu (And.intro hn (And.intro hsl (And.intro hgl (And.intro hum hnm)))))
  obtain ⟨C0, hC0⟩ : ∃ C, C = w.heap.size := ⟨_, rfl⟩
  obtain ⟨C1, hC1⟩ : ∃ C, C = w.heap.size + 1 := ⟨_, rfl⟩
  have k := (((Sw.start h hB).new 53 #[.int .i64 t, .int .i64 m, .int .i64 y, .int .i64 z, .int .i64 p, .int .i64 d, .int .i64 o, .int .i64 g, .int .i64 u, .int .i64 n, .slice sa sl.length sc, .slice ga gl.length gc, .slice da dl.length dc, .slice ua ul.length uc, .slice na nl.length nc]).new 53 #[.int .i64 0, .int .i64 0, .int .i64 0, .int .i64 0, .int .i64 0, .int .i64 0, .int .i64 0, .int .i64 0, .int .i64 0, .int .i64 0, .slice none 0 0, .slice none 0 0, .slice none 0 0, .slice none 0 0, .slice none 0 0])
  simp only [World.size_alloc] at k
  rw [← hC1, ← hC0] at k
  have H0 := Lib.hid k
  clear k h
  go_enter Try.func46, Try.ntmps46
  go_upto_region 1 with fail
  try simp only [World.size_alloc]
  try rw [← hC1]
  try rw [← hC0]
  clear hC0 hC1
  generalize ((w.alloc (.cells #[.int .i64 t, .int .i64 m, .int .i64 y, .int .i64 z, .int .i64 p, .int .i64 d, .int .i64 o, .int .i64 g, .int .i64 u, .int .i64 n, .slice sa sl.length sc, .slice ga gl.length gc, .slice da dl.length dc, .slice ua ul.length uc, .slice na nl.length nc] 53)).alloc (.cells #[.int .i64 0, .int .i64 0, .int .i64 0, .int .i64 0, .int .i64 0, .int .i64 0, .int .i64 0, .int .i64 0, .int .i64 0, .int .i64 0, .slice none 0 0, .slice none 0 0, .slice none 0 0, .slice none 0 0, .slice none 0 0] 53)) = W0 at *
  have c1 := H0.out.b1.c 1 rfl
  have c9 := H0.out.b1.c 9 rfl
  go_cut [5] (fun s5 wx => ∃ q : Int, s5 = .int .i64 q ∧ Sw w B X [(C1, 53, #[.int .i64 0, .int .i64 0, .int .i64 0, .int .i64 0, .int .i64 0, .int .i64 0, .int .i64 0, .int .i64 0, .int .i64 0, .int .i64 0, .slice none 0 0, .slice none 0 0, .slice none 0 0, .slice none 0 0, .slice none 0 0]), (C0, 53, #[.int .i64 t, .int .i64 m, .int .i64 y, .int .i64 z, .int .i64 p, .int .i64 d, .int .i64 o, .int .i64 g, .int .i64 u, .int .i64 n, .slice sa sl.length sc, .slice ga gl.length gc, .slice da dl.length dc, .slice ua ul.length uc, .slice na nl.length nc])] sa sc sl ga gc gl da dc dl ua uc ul na nc nl wx)
  case first =>
    rcases Int.lt_trichotomy (IntKind.i64.wrap (f + m)) n with hq | hq | hq
    all_goals go_wp2_with fail
    all_goals go_meet
    all_goals exact ⟨_, rfl, H0.out⟩
  case rest =>
    clear c1 c9
    obtain ⟨q, rfl, hs⟩ := hcut
    generalize hwc : wc = w1 at *
    clear hwc
    have H1 := Lib.hid hs
    clear hs H0
    have hsz := H1.out.k.size
    have c12 := H1.out.b1.c 12 rfl
    have HO := Lib.hid (H1.out.l.kept (World.grownBy_alloc w1 (.cells #[.int .i64 f, .int .i64 q] 44) none)).d
    go_wp2_with (at_builtin; refine wpList_append_lies _ rfl _ _ 31 rfl B 44 i0 _ 2 16 Try.underlying31 hi hz0 hz1 hz2 rfl (by decide) _ _ _ rfl HO.out ⟨w1.heap.size, 0, none⟩ 1 1 [.int .i64 f, .int .i64 q] rfl rfl ?c1 ?c2 (by decide) ?c3 ?c4 ?c5 (w1.heap.size + 1) (by simp) ?_)
    case c1 => exact World.news_of_block (World.alloc_heap_new w1 _)
    case c2 => intro u hu; simp only [List.mem_cons, List.not_mem_nil, or_false] at hu; rcases hu with rfl | rfl <;> rfl
    case c3 => unfold maxLen; omega
    case c4 => omega
    case c5 => simp only [World.size_alloc]; omega
    intro g2 cc2 w2 hr hg hat hlt
    have H2 := Lib.hid ((H1.out.keep (World.grownBy_alloc _ _ _)).pushD (x := (f, q)) hr hg hat (by simp))
    clear hr hg hat HO c12
    have c12 := H2.out.b1.c 12 rfl
    have f12 := H2.out.b1.f 12
    have H3 := Lib.hid (H2.out.p1 12 (.slice (some ⟨g2, 0, none⟩) (dl.length + 1) cc2))
    go_upto_region 3 with fail
    clear c12 f12 hlt H2
    generalize w2.setCell ⟨C0, 12, none⟩ (.slice (some ⟨g2, 0, none⟩) (dl.length + 1) cc2) = w3 at *
    have hsz3 := H3.out.k.size
    obtain ⟨x, hx⟩ : ∃ x, IntKind.i64.wrap (q - f) = x := ⟨_, rfl⟩
    have c14 := H3.out.b1.c 14 rfl
    have HO := Lib.hid (H3.out.l.kept (World.grownBy_alloc w3 (.cells #[.int .i64 1, .int .i64 f, .int .i64 x, .slice none 0 0] 33) none)).n
    go_wp2_with (at_builtin; refine wpList_append_lies _ rfl _ _ 24 rfl B 33 i1 _ 4 48 Try.underlying24 ki kz0 kz1 kz2 rfl (by decide) _ _ _ rfl HO.out ⟨w3.heap.size, 0, none⟩ 1 1 [.int .i64 1, .int .i64 f, .int .i64 x, .slice none 0 0] rfl rfl ?d1 ?d2 (by decide) ?d3 ?d4 ?d5 (w3.heap.size + 1) (by simp) ?_)
    case d1 => exact World.news_of_block (World.alloc_heap_new w3 _)
    case d2 => intro u hu; simp only [List.mem_cons, List.not_mem_nil, or_false] at hu; rcases hu with rfl | rfl | rfl | rfl <;> rfl
    case d3 => unfold maxLen; omega
    case d4 => omega
    case d5 => simp only [World.size_alloc]; omega
    intro g4 cc4 w4 hr hg hat hlt
    have H4 := Lib.hid ((H3.out.keep (World.grownBy_alloc _ _ _)).pushN (x := ⟨1, f, x, none, 0, []⟩) hr hg hat (by simp) (stN_nil 1 f x))
    clear hr hg hat HO c14
    have c14 := H4.out.b1.c 14 rfl
    have f14 := H4.out.b1.f 14
    have H5 := Lib.hid (H4.out.p1 14 (.slice (some ⟨g4, 0, none⟩) (nl.length + 1) cc4))
    go_upto_region 4 with fail
    clear c14 f14 hlt H4 H3 hx
    generalize w4.setCell ⟨C0, 14, none⟩ (.slice (some ⟨g4, 0, none⟩) (nl.length + 1) cc4) = w5 at *
    have o0 := H5.out.b1.c 0 rfl
    have o1 := H5.out.b1.c 1 rfl
    have o2 := H5.out.b1.c 2 rfl
    have o3 := H5.out.b1.c 3 rfl
    have o4 := H5.out.b1.c 4 rfl
    have o5 := H5.out.b1.c 5 rfl
    have o6 := H5.out.b1.c 6 rfl
    have o7 := H5.out.b1.c 7 rfl
    have o8 := H5.out.b1.c 8 rfl
    have o9 := H5.out.b1.c 9 rfl
    have o10 := H5.out.b1.c 10 rfl
    have o11 := H5.out.b1.c 11 rfl
    have o12 := H5.out.b1.c 12 rfl
    have o13 := H5.out.b1.c 13 rfl
    have o14 := H5.out.b1.c 14 rfl
    have r0 := H5.out.b0.c 0 rfl
    have r1 := H5.out.b0.c 1 rfl
    have r2 := H5.out.b0.c 2 rfl
    have r3 := H5.out.b0.c 3 rfl
    have r4 := H5.out.b0.c 4 rfl
    have r5 := H5.out.b0.c 5 rfl
    have r6 := H5.out.b0.c 6 rfl
    have r7 := H5.out.b0.c 7 rfl
    have r8 := H5.out.b0.c 8 rfl
    have r9 := H5.out.b0.c 9 rfl
    have r10 := H5.out.b0.c 10 rfl
    have r11 := H5.out.b0.c 11 rfl
    have r12 := H5.out.b0.c 12 rfl
    have r13 := H5.out.b0.c 13 rfl
    have r14 := H5.out.b0.c 14 rfl
    have f0 := H5.out.b0.f 0
    have f1 := H5.out.b0.f 1
    have f2 := H5.out.b0.f 2
    have f3 := H5.out.b0.f 3
    have f4 := H5.out.b0.f 4
    have f5 := H5.out.b0.f 5
    have f6 := H5.out.b0.f 6
    have f7 := H5.out.b0.f 7
    have f8 := H5.out.b0.f 8
    have f9 := H5.out.b0.f 9
    have f10 := H5.out.b0.f 10
    have f11 := H5.out.b0.f 11
    have f12 := H5.out.b0.f 12
    have f13 := H5.out.b0.f 13
    have f14 := H5.out.b0.f 14
    have lr := H5.out.b0.lt
    obtain ⟨ys0, k0⟩ := (H5.out).any0 0 (.int .i64 t)
    obtain ⟨ys1, k1⟩ := (k0).any0 1 (.int .i64 m)
    obtain ⟨ys2, k2⟩ := (k1).any0 2 (.int .i64 y)
    obtain ⟨ys3, k3⟩ := (k2).any0 3 (.int .i64 z)
    obtain ⟨ys4, k4⟩ := (k3).any0 4 (.int .i64 p)
    obtain ⟨ys5, k5⟩ := (k4).any0 5 (.int .i64 d)
    obtain ⟨ys6, k6⟩ := (k5).any0 6 (.int .i64 o)
    obtain ⟨ys7, k7⟩ := (k6).any0 7 (.int .i64 g)
    obtain ⟨ys8, k8⟩ := (k7).any0 8 (.int .i64 u)
    obtain ⟨ys9, k9⟩ := (k8).any0 9 (.int .i64 n)
    obtain ⟨ys10, k10⟩ := (k9).any0 10 (.slice sa sl.length sc)
    obtain ⟨ys11, k11⟩ := (k10).any0 11 (.slice ga gl.length gc)
    obtain ⟨ys12, k12⟩ := (k11).any0 12 (.slice (some ⟨g2, 0, none⟩) (dl.length + 1) cc2)
    obtain ⟨ys13, k13⟩ := (k12).any0 13 (.slice ua ul.length uc)
    obtain ⟨ys14, k14⟩ := (k13).any0 14 (.slice (some ⟨g4, 0, none⟩) (nl.length + 1) cc4)
    have HK := Lib.hid k14
    clear k0 k1 k2 k3 k4 k5 k6 k7 k8 k9 k10 k11 k12 k13 k14
    go_wp2_with fail
    refine bodyPost_ret (v := .agg #[.int .i64 t, .int .i64 m, .int .i64 y, .int .i64 z, .int .i64 p, .int .i64 d, .int .i64 o, .int .i64 g, .int .i64 u, .int .i64 n, .slice sa sl.length sc, .slice ga gl.length gc, .slice (some ⟨g2, 0, none⟩) (dl.length + 1) cc2, .slice ua ul.length uc, .slice (some ⟨g4, 0, none⟩) (nl.length + 1) cc4]) (by simp [results, Try.results46, go_sem, r0, r1, r2, r3, r4, r5, r6, r7, r8, r9, r10, r11, r12, r13, r14]) rfl ?_
    refine ⟨⟨t, m, y, z, p, d, o, g, u, n, sa, sc, sl, ga, gc, gl, some ⟨g2, 0, none⟩, cc2, dl ++ [(f, q)], ua, uc, ul, some ⟨g4, 0, none⟩, cc4, nl ++ [(⟨1, f, x, none, 0, []⟩ : Nt)]⟩, by simp [Wv.v], HK.out.fin.1, HK.out.fin.2, ?_⟩
    unfold Wv.le
    dsimp only
    exact ⟨by omega, by omega, by simp, Nat.le_refl _, by simp, hum, fun z hz => (List.mem_append.mp hz).elim (hnm z) fun e => by rw [List.mem_singleton.mp e]; simp⟩

set_option maxRecDepth 100000 in
set_option maxHeartbeats 4000000 in
theorem new_S (t m y z p d o g u n : Int) (sa : Option Addr) (sc : Nat) (sl : List Rg) (ga : Option Addr) (gc : Nat) (gl : List Pk) (da : Option Addr) (dc : Nat) (dl : List Rg) (ua : Option Addr) (uc : Nat) (ul : List Nt) (na : Option Addr) (nc : Nat) (nl : List Nt) (w : World) (B : Nat) (X : List Nat) (h : LwAt w B X sa sc sl ga gc gl da dc dl ua uc ul na nc nl) (hB : B ≤ w.heap.size) (hd : dl.length ≤ 1000) (hu : ul.length ≤ 1000) (hn : nl.length ≤ 1000) (hsl : sl.length ≤ 1000) (hgl : gl.length ≤ 900) (hum : ∀ x ∈ ul, x.l.length ≤ 3) (hnm : ∀ x ∈ nl, x.l.length ≤ 3) :
    Calls Try.prog 39 #[.agg #[.int .i64 t, .int .i64 m, .int .i64 y, .int .i64 z, .int .i64 p, .int .i64 d, .int .i64 o, .int .i64 g, .int .i64 u, .int .i64 n, .slice sa sl.length sc, .slice ga gl.length gc, .slice da dl.length dc, .slice ua ul.length uc, .slice na nl.length nc]] w (WPost2 w B X (dl.length + 1) ul.length (nl.length + 1)) := by
  have _ := And.intro hd (And.intro hu (And.intro hn (And.intro hsl (And.intro hgl (And.intro hum hnm)))))
  obtain ⟨C0, hC0⟩ : ∃ C, C = w.heap.size := ⟨_, rfl⟩
  obtain ⟨C1, hC1⟩ : ∃ C, C = w.heap.size + 1 := ⟨_, rfl⟩
  have k := (((Sw.start h hB).new 53 #[.int .i64 t, .int .i64 m, .int .i64 y, .int .i64 z, .int .i64 p, .int .i64 d, .int .i64 o, .int .i64 g, .int .i64 u, .int .i64 n, .slice sa sl.length sc, .slice ga gl.length gc, .slice da dl.length dc, .slice ua ul.length uc, .slice na nl.length nc]).new 53 #[.int .i64 0, .int .i64 0, .int .i64 0, .int .i64 0, .int .i64 0, .int .i64 0, .int .i64 0, .int .i64 0, .int .i64 0, .int .i64 0, .slice none 0 0, .slice none 0 0, .slice none 0 0, .slice none 0 0, .slice none 0 0])
  simp only [World.size_alloc] at k
  rw [← hC1, ← hC0] at k
  have H0 := Lib.hid k
  clear k h
  go_enter Try.func39, Try.ntmps39
  go_upto_region 1 with fail
  try simp only [World.size_alloc]
  try rw [← hC1]
  try rw [← hC0]
  clear hC0 hC1
  generalize ((w.alloc (.cells #[.int .i64 t, .int .i64 m, .int .i64 y, .int .i64 z, .int .i64 p, .int .i64 d, .int .i64 o, .int .i64 g, .int .i64 u, .int .i64 n, .slice sa sl.length sc, .slice ga gl.length gc, .slice da dl.length dc, .slice ua ul.length uc, .slice na nl.length nc] 53)).alloc (.cells #[.int .i64 0, .int .i64 0, .int .i64 0, .int .i64 0, .int .i64 0, .int .i64 0, .int .i64 0, .int .i64 0, .int .i64 0, .int .i64 0, .slice none 0 0, .slice none 0 0, .slice none 0 0, .slice none 0 0, .slice none 0 0] 53)) = W0 at *
  have c0 := H0.out.b1.c 0 rfl
  have c1 := H0.out.b1.c 1 rfl
  have c9 := H0.out.b1.c 9 rfl
  go_cut [4] (fun s4 wx => ∃ q : Int, s4 = .int .i64 q ∧ Sw w B X [(C1, 53, #[.int .i64 0, .int .i64 0, .int .i64 0, .int .i64 0, .int .i64 0, .int .i64 0, .int .i64 0, .int .i64 0, .int .i64 0, .int .i64 0, .slice none 0 0, .slice none 0 0, .slice none 0 0, .slice none 0 0, .slice none 0 0]), (C0, 53, #[.int .i64 t, .int .i64 m, .int .i64 y, .int .i64 z, .int .i64 p, .int .i64 d, .int .i64 o, .int .i64 g, .int .i64 u, .int .i64 n, .slice sa sl.length sc, .slice ga gl.length gc, .slice da dl.length dc, .slice ua ul.length uc, .slice na nl.length nc])] sa sc sl ga gc gl da dc dl ua uc ul na nc nl wx)
  case first =>
    rcases Int.lt_trichotomy m (IntKind.i64.wrap (t - n)) with hq | hq | hq
    all_goals go_wp2_with fail
    all_goals go_meet
    all_goals exact ⟨_, rfl, H0.out⟩
  case rest =>
    clear c0 c1 c9
    obtain ⟨q, rfl, hs⟩ := hcut
    generalize hwc : wc = w1 at *
    clear hwc
    have H1 := Lib.hid hs
    clear hs H0
    have hsz := H1.out.k.size
    have c2 := H1.out.b1.c 2 rfl
    have c8 := H1.out.b1.c 8 rfl
    have c9 := H1.out.b1.c 9 rfl
    obtain ⟨x, hx⟩ : ∃ x, IntKind.i64.wrap (n - u) = x := ⟨_, rfl⟩
    obtain ⟨x2, hx2⟩ : ∃ x2, IntKind.i64.wrap (x + q) = x2 := ⟨_, rfl⟩
    obtain ⟨x3, hx3⟩ : ∃ x3, IntKind.i64.wrap (n + q) = x3 := ⟨_, rfl⟩
    by_cases hq : q < 1
    · have hq2 : decide (q < 1) = true := decide_eq_true hq
      go_upto_region 3 with fail
      clear c2 c8 c9
      have o0 := H1.out.b1.c 0 rfl
      have o1 := H1.out.b1.c 1 rfl
      have o2 := H1.out.b1.c 2 rfl
      have o3 := H1.out.b1.c 3 rfl
      have o4 := H1.out.b1.c 4 rfl
      have o5 := H1.out.b1.c 5 rfl
      have o6 := H1.out.b1.c 6 rfl
      have o7 := H1.out.b1.c 7 rfl
      have o8 := H1.out.b1.c 8 rfl
      have o9 := H1.out.b1.c 9 rfl
      have o10 := H1.out.b1.c 10 rfl
      have o11 := H1.out.b1.c 11 rfl
      have o12 := H1.out.b1.c 12 rfl
      have o13 := H1.out.b1.c 13 rfl
      have o14 := H1.out.b1.c 14 rfl
      have r0 := H1.out.b0.c 0 rfl
      have r1 := H1.out.b0.c 1 rfl
      have r2 := H1.out.b0.c 2 rfl
      have r3 := H1.out.b0.c 3 rfl
      have r4 := H1.out.b0.c 4 rfl
      have r5 := H1.out.b0.c 5 rfl
      have r6 := H1.out.b0.c 6 rfl
      have r7 := H1.out.b0.c 7 rfl
      have r8 := H1.out.b0.c 8 rfl
      have r9 := H1.out.b0.c 9 rfl
      have r10 := H1.out.b0.c 10 rfl
      have r11 := H1.out.b0.c 11 rfl
      have r12 := H1.out.b0.c 12 rfl
      have r13 := H1.out.b0.c 13 rfl
      have r14 := H1.out.b0.c 14 rfl
      have f0 := H1.out.b0.f 0
      have f1 := H1.out.b0.f 1
      have f2 := H1.out.b0.f 2
      have f3 := H1.out.b0.f 3
      have f4 := H1.out.b0.f 4
      have f5 := H1.out.b0.f 5
      have f6 := H1.out.b0.f 6
      have f7 := H1.out.b0.f 7
      have f8 := H1.out.b0.f 8
      have f9 := H1.out.b0.f 9
      have f10 := H1.out.b0.f 10
      have f11 := H1.out.b0.f 11
      have f12 := H1.out.b0.f 12
      have f13 := H1.out.b0.f 13
      have f14 := H1.out.b0.f 14
      have lr := H1.out.b0.lt
      obtain ⟨ys0, k0⟩ := (H1.out).any0 0 (.int .i64 t)
      obtain ⟨ys1, k1⟩ := (k0).any0 1 (.int .i64 m)
      obtain ⟨ys2, k2⟩ := (k1).any0 2 (.int .i64 y)
      obtain ⟨ys3, k3⟩ := (k2).any0 3 (.int .i64 z)
      obtain ⟨ys4, k4⟩ := (k3).any0 4 (.int .i64 p)
      obtain ⟨ys5, k5⟩ := (k4).any0 5 (.int .i64 d)
      obtain ⟨ys6, k6⟩ := (k5).any0 6 (.int .i64 o)
      obtain ⟨ys7, k7⟩ := (k6).any0 7 (.int .i64 g)
      obtain ⟨ys8, k8⟩ := (k7).any0 8 (.int .i64 u)
      obtain ⟨ys9, k9⟩ := (k8).any0 9 (.int .i64 n)
      obtain ⟨ys10, k10⟩ := (k9).any0 10 (.slice sa sl.length sc)
      obtain ⟨ys11, k11⟩ := (k10).any0 11 (.slice ga gl.length gc)
      obtain ⟨ys12, k12⟩ := (k11).any0 12 (.slice da dl.length dc)
      obtain ⟨ys13, k13⟩ := (k12).any0 13 (.slice ua ul.length uc)
      obtain ⟨ys14, k14⟩ := (k13).any0 14 (.slice na nl.length nc)
      have HK := Lib.hid k14
      clear k0 k1 k2 k3 k4 k5 k6 k7 k8 k9 k10 k11 k12 k13 k14
      go_wp2_with fail
      refine bodyPost_ret (v := .tuple #[.agg #[.int .i64 t, .int .i64 m, .int .i64 y, .int .i64 z, .int .i64 p, .int .i64 d, .int .i64 o, .int .i64 g, .int .i64 u, .int .i64 n, .slice sa sl.length sc, .slice ga gl.length gc, .slice da dl.length dc, .slice ua ul.length uc, .slice na nl.length nc], .int .i64 2]) (by simp [results, Try.results39, go_sem, r0, r1, r2, r3, r4, r5, r6, r7, r8, r9, r10, r11, r12, r13, r14]) rfl ?_
      refine ⟨⟨t, m, y, z, p, d, o, g, u, n, sa, sc, sl, ga, gc, gl, da, dc, dl, ua, uc, ul, na, nc, nl⟩, 2, by simp [Wv.v], HK.out.fin.1, HK.out.fin.2, ?_⟩
      unfold Wv.le
      dsimp only
      exact ⟨hsl, by omega, by omega, Nat.le_refl _, by omega, hum, hnm⟩
    · have hq2 : decide (q < 1) = false := decide_eq_false hq
      by_cases hy : y < x2
      · have hy2 : decide (y < x2) = true := decide_eq_true hy
        go_upto_region 3 with fail
        clear c2 c8 c9
        have o0 := H1.out.b1.c 0 rfl
        have o1 := H1.out.b1.c 1 rfl
        have o2 := H1.out.b1.c 2 rfl
        have o3 := H1.out.b1.c 3 rfl
        have o4 := H1.out.b1.c 4 rfl
        have o5 := H1.out.b1.c 5 rfl
        have o6 := H1.out.b1.c 6 rfl
        have o7 := H1.out.b1.c 7 rfl
        have o8 := H1.out.b1.c 8 rfl
        have o9 := H1.out.b1.c 9 rfl
        have o10 := H1.out.b1.c 10 rfl
        have o11 := H1.out.b1.c 11 rfl
        have o12 := H1.out.b1.c 12 rfl
        have o13 := H1.out.b1.c 13 rfl
        have o14 := H1.out.b1.c 14 rfl
        have r0 := H1.out.b0.c 0 rfl
        have r1 := H1.out.b0.c 1 rfl
        have r2 := H1.out.b0.c 2 rfl
        have r3 := H1.out.b0.c 3 rfl
        have r4 := H1.out.b0.c 4 rfl
        have r5 := H1.out.b0.c 5 rfl
        have r6 := H1.out.b0.c 6 rfl
        have r7 := H1.out.b0.c 7 rfl
        have r8 := H1.out.b0.c 8 rfl
        have r9 := H1.out.b0.c 9 rfl
        have r10 := H1.out.b0.c 10 rfl
        have r11 := H1.out.b0.c 11 rfl
        have r12 := H1.out.b0.c 12 rfl
        have r13 := H1.out.b0.c 13 rfl
        have r14 := H1.out.b0.c 14 rfl
        have f0 := H1.out.b0.f 0
        have f1 := H1.out.b0.f 1
        have f2 := H1.out.b0.f 2
        have f3 := H1.out.b0.f 3
        have f4 := H1.out.b0.f 4
        have f5 := H1.out.b0.f 5
        have f6 := H1.out.b0.f 6
        have f7 := H1.out.b0.f 7
        have f8 := H1.out.b0.f 8
        have f9 := H1.out.b0.f 9
        have f10 := H1.out.b0.f 10
        have f11 := H1.out.b0.f 11
        have f12 := H1.out.b0.f 12
        have f13 := H1.out.b0.f 13
        have f14 := H1.out.b0.f 14
        have lr := H1.out.b0.lt
        obtain ⟨ys0, k0⟩ := (H1.out).any0 0 (.int .i64 t)
        obtain ⟨ys1, k1⟩ := (k0).any0 1 (.int .i64 m)
        obtain ⟨ys2, k2⟩ := (k1).any0 2 (.int .i64 y)
        obtain ⟨ys3, k3⟩ := (k2).any0 3 (.int .i64 z)
        obtain ⟨ys4, k4⟩ := (k3).any0 4 (.int .i64 p)
        obtain ⟨ys5, k5⟩ := (k4).any0 5 (.int .i64 d)
        obtain ⟨ys6, k6⟩ := (k5).any0 6 (.int .i64 o)
        obtain ⟨ys7, k7⟩ := (k6).any0 7 (.int .i64 g)
        obtain ⟨ys8, k8⟩ := (k7).any0 8 (.int .i64 u)
        obtain ⟨ys9, k9⟩ := (k8).any0 9 (.int .i64 n)
        obtain ⟨ys10, k10⟩ := (k9).any0 10 (.slice sa sl.length sc)
        obtain ⟨ys11, k11⟩ := (k10).any0 11 (.slice ga gl.length gc)
        obtain ⟨ys12, k12⟩ := (k11).any0 12 (.slice da dl.length dc)
        obtain ⟨ys13, k13⟩ := (k12).any0 13 (.slice ua ul.length uc)
        obtain ⟨ys14, k14⟩ := (k13).any0 14 (.slice na nl.length nc)
        have HK := Lib.hid k14
        clear k0 k1 k2 k3 k4 k5 k6 k7 k8 k9 k10 k11 k12 k13 k14
        go_wp2_with fail
        refine bodyPost_ret (v := .tuple #[.agg #[.int .i64 t, .int .i64 m, .int .i64 y, .int .i64 z, .int .i64 p, .int .i64 d, .int .i64 o, .int .i64 g, .int .i64 u, .int .i64 n, .slice sa sl.length sc, .slice ga gl.length gc, .slice da dl.length dc, .slice ua ul.length uc, .slice na nl.length nc], .int .i64 2]) (by simp [results, Try.results39, go_sem, r0, r1, r2, r3, r4, r5, r6, r7, r8, r9, r10, r11, r12, r13, r14]) rfl ?_
        refine ⟨⟨t, m, y, z, p, d, o, g, u, n, sa, sc, sl, ga, gc, gl, da, dc, dl, ua, uc, ul, na, nc, nl⟩, 2, by simp [Wv.v], HK.out.fin.1, HK.out.fin.2, ?_⟩
        unfold Wv.le
        dsimp only
        exact ⟨hsl, by omega, by omega, Nat.le_refl _, by omega, hum, hnm⟩
      · have hy2 : decide (y < x2) = false := decide_eq_false hy
        have f9 := H1.out.b1.f 9
        have H2 := Lib.hid (H1.out.p1 9 (.int .i64 x3))
        go_upto_region 6 with fail
        clear c2 c8 c9 f9 H1
        generalize w1.setCell ⟨C0, 9, none⟩ (.int .i64 x3) = w2 at *
        have hsz2 := H2.out.k.size
        have c0 := H2.out.b1.c 0 rfl
        have c1 := H2.out.b1.c 1 rfl
        have c2 := H2.out.b1.c 2 rfl
        have c3 := H2.out.b1.c 3 rfl
        have c4 := H2.out.b1.c 4 rfl
        have c5 := H2.out.b1.c 5 rfl
        have c6 := H2.out.b1.c 6 rfl
        have c7 := H2.out.b1.c 7 rfl
        have c8 := H2.out.b1.c 8 rfl
        have c9 := H2.out.b1.c 9 rfl
        have c10 := H2.out.b1.c 10 rfl
        have c11 := H2.out.b1.c 11 rfl
        have c12 := H2.out.b1.c 12 rfl
        have c13 := H2.out.b1.c 13 rfl
        have c14 := H2.out.b1.c 14 rfl
        go_wp2_with fail
        refine (send_S t m y z p d o g u x3 sa sc sl ga gc gl da dc dl ua uc ul na nc nl n w2 B (C1 :: C0 :: X) H2.out.l (by omega) hd hu hn hsl hgl hum hnm).mono ?_
        rintro e w3 ⟨⟨t3, m3, y3, z3, p3, d3, o3, g3, u3, n3, sa3, sc3, sl3, ga3, gc3, gl3, da3, dc3, dl3, ua3, uc3, ul3, na3, nc3, nl3⟩, rfl, ha, hk, hle⟩
        have H3 := Lib.hid (H2.out.call ha hk)
        have HLE := Lib.hid hle
        clear ha hk hle
        dsimp only [Wv.v]
        dsimp only [Wv.le] at HLE
        clear c0 c1 c2 c3 c4 c5 c6 c7 c8 c9 c10 c11 c12 c13 c14
        have r0 := H3.out.b0.c 0 rfl
        have r1 := H3.out.b0.c 1 rfl
        have r2 := H3.out.b0.c 2 rfl
        have r3 := H3.out.b0.c 3 rfl
        have r4 := H3.out.b0.c 4 rfl
        have r5 := H3.out.b0.c 5 rfl
        have r6 := H3.out.b0.c 6 rfl
        have r7 := H3.out.b0.c 7 rfl
        have r8 := H3.out.b0.c 8 rfl
        have r9 := H3.out.b0.c 9 rfl
        have r10 := H3.out.b0.c 10 rfl
        have r11 := H3.out.b0.c 11 rfl
        have r12 := H3.out.b0.c 12 rfl
        have r13 := H3.out.b0.c 13 rfl
        have r14 := H3.out.b0.c 14 rfl
        have f0 := H3.out.b0.f 0
        have f1 := H3.out.b0.f 1
        have f2 := H3.out.b0.f 2
        have f3 := H3.out.b0.f 3
        have f4 := H3.out.b0.f 4
        have f5 := H3.out.b0.f 5
        have f6 := H3.out.b0.f 6
        have f7 := H3.out.b0.f 7
        have f8 := H3.out.b0.f 8
        have f9 := H3.out.b0.f 9
        have f10 := H3.out.b0.f 10
        have f11 := H3.out.b0.f 11
        have f12 := H3.out.b0.f 12
        have f13 := H3.out.b0.f 13
        have f14 := H3.out.b0.f 14
        have lr := H3.out.b0.lt
        obtain ⟨ys0, k0⟩ := (H3.out).any0 0 (.int .i64 t3)
        obtain ⟨ys1, k1⟩ := (k0).any0 1 (.int .i64 m3)
        obtain ⟨ys2, k2⟩ := (k1).any0 2 (.int .i64 y3)
        obtain ⟨ys3, k3⟩ := (k2).any0 3 (.int .i64 z3)
        obtain ⟨ys4, k4⟩ := (k3).any0 4 (.int .i64 p3)
        obtain ⟨ys5, k5⟩ := (k4).any0 5 (.int .i64 d3)
        obtain ⟨ys6, k6⟩ := (k5).any0 6 (.int .i64 o3)
        obtain ⟨ys7, k7⟩ := (k6).any0 7 (.int .i64 g3)
        obtain ⟨ys8, k8⟩ := (k7).any0 8 (.int .i64 u3)
        obtain ⟨ys9, k9⟩ := (k8).any0 9 (.int .i64 n3)
        obtain ⟨ys10, k10⟩ := (k9).any0 10 (.slice sa3 sl3.length sc3)
        obtain ⟨ys11, k11⟩ := (k10).any0 11 (.slice ga3 gl3.length gc3)
        obtain ⟨ys12, k12⟩ := (k11).any0 12 (.slice da3 dl3.length dc3)
        obtain ⟨ys13, k13⟩ := (k12).any0 13 (.slice ua3 ul3.length uc3)
        obtain ⟨ys14, k14⟩ := (k13).any0 14 (.slice na3 nl3.length nc3)
        have HK := Lib.hid k14
        clear k0 k1 k2 k3 k4 k5 k6 k7 k8 k9 k10 k11 k12 k13 k14
        go_wp2_with fail
        refine bodyPost_ret (v := .tuple #[.agg #[.int .i64 t3, .int .i64 m3, .int .i64 y3, .int .i64 z3, .int .i64 p3, .int .i64 d3, .int .i64 o3, .int .i64 g3, .int .i64 u3, .int .i64 n3, .slice sa3 sl3.length sc3, .slice ga3 gl3.length gc3, .slice da3 dl3.length dc3, .slice ua3 ul3.length uc3, .slice na3 nl3.length nc3], .int .i64 0]) (by simp [results, Try.results39, go_sem, r0, r1, r2, r3, r4, r5, r6, r7, r8, r9, r10, r11, r12, r13, r14]) rfl ?_
        refine ⟨⟨t3, m3, y3, z3, p3, d3, o3, g3, u3, n3, sa3, sc3, sl3, ga3, gc3, gl3, da3, dc3, dl3, ua3, uc3, ul3, na3, nc3, nl3⟩, 0, by simp [Wv.v], HK.out.fin.1, HK.out.fin.2, ?_⟩
        unfold Wv.le
        dsimp only
        exact ⟨HLE.out.1, HLE.out.2.1, HLE.out.2.2.1, HLE.out.2.2.2.1, HLE.out.2.2.2.2.1, HLE.out.2.2.2.2.2.1, HLE.out.2.2.2.2.2.2⟩

end Go.Proofs.Ytedhemllgpbheaa

