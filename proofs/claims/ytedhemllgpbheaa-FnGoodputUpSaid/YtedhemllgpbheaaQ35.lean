/- Vb -/
import Derived.Test.YtedhemllgpbheaaQ34
namespace Go.Proofs.Ytedhemllgpbheaa
open Go.RowKit
open P7 (Pk PkAt pksV PcsP prefL)

set_option maxRecDepth 100000 in
set_option maxHeartbeats 8000000 in
theorem do_downN (t m y z p d o g u n : Int) (sa : Option Addr) (sc : Nat) (sl : List Rg) (ga : Option Addr) (gc : Nat) (gl : List Pk) (da : Option Addr) (dc : Nat) (dl : List Rg) (ua : Option Addr) (uc : Nat) (ul : List Nt) (na : Option Addr) (nc : Nat) (nl : List Nt) (sat : Int) (sd : Bool) (w : World) (X : List Nat) (h : LrAt w sa sc sl ga gc gl da dc dl ua uc ul na nc nl) (hX : ∀ b ∈ X, b < w.heap.size) (hw : wdP t ⟨m, y, z, p, d, o, g⟩ u n sl gl dl (ul.map Nt.o) (nl.map Nt.o)) (hin : ¬ (0 ≤ sat ∧ sat < (dl.length : Int))) :
    Calls Try.prog 30 #[.agg #[.int .i64 t, .int .i64 m, .int .i64 y, .int .i64 z, .int .i64 p, .int .i64 d, .int .i64 o, .int .i64 g, .int .i64 u, .int .i64 n, .slice sa sl.length sc, .slice ga gl.length gc, .slice da dl.length dc, .slice ua ul.length uc, .slice na nl.length nc], .agg #[.int .i64 2, .int .i64 sat, .bool sd]] w (DoPost w X) := by
  obtain ⟨hd, hu, hn, hsl, hgl, hum, hnm⟩ := wd_le hw
  have HR := Lib.hid h
  have HW := Lib.hid hw
  clear hw
  obtain ⟨C0, hC0⟩ : ∃ C, C = w.heap.size := ⟨_, rfl⟩
  obtain ⟨C1, hC1⟩ : ∃ C, C = w.heap.size + 1 := ⟨_, rfl⟩
  obtain ⟨C2, hC2⟩ : ∃ C, C = w.heap.size + 1 + 1 := ⟨_, rfl⟩
  have k := ((((Sw.start (LwAt.nil w w.heap.size X hX) (Nat.le_refl _)).new 53 #[.int .i64 t, .int .i64 m, .int .i64 y, .int .i64 z, .int .i64 p, .int .i64 d, .int .i64 o, .int .i64 g, .int .i64 u, .int .i64 n, .slice sa sl.length sc, .slice ga gl.length gc, .slice da dl.length dc, .slice ua ul.length uc, .slice na nl.length nc]).new 59 #[.int .i64 2, .int .i64 sat, .bool sd]).new 53 #[.int .i64 0, .int .i64 0, .int .i64 0, .int .i64 0, .int .i64 0, .int .i64 0, .int .i64 0, .int .i64 0, .int .i64 0, .int .i64 0, .slice none 0 0, .slice none 0 0, .slice none 0 0, .slice none 0 0, .slice none 0 0])
  simp only [World.size_alloc] at k
  rw [← hC2, ← hC1, ← hC0] at k
  have H0 := Lib.hid k
  clear k h hX
  go_enter Try.func30, Try.ntmps30
  go_upto_region 1 with fail
  try simp only [World.size_alloc]
  try rw [← hC2]
  try rw [← hC1]
  try rw [← hC0]
  have HCC := Lib.hid hC0
  clear hC0 hC1 hC2
  generalize (((w.alloc (.cells #[.int .i64 t, .int .i64 m, .int .i64 y, .int .i64 z, .int .i64 p, .int .i64 d, .int .i64 o, .int .i64 g, .int .i64 u, .int .i64 n, .slice sa sl.length sc, .slice ga gl.length gc, .slice da dl.length dc, .slice ua ul.length uc, .slice na nl.length nc] 53)).alloc (.cells #[.int .i64 2, .int .i64 sat, .bool sd] 59)).alloc (.cells #[.int .i64 0, .int .i64 0, .int .i64 0, .int .i64 0, .int .i64 0, .int .i64 0, .int .i64 0, .int .i64 0, .int .i64 0, .int .i64 0, .slice none 0 0, .slice none 0 0, .slice none 0 0, .slice none 0 0, .slice none 0 0] 53)) = W0 at *
  go_wp2_with (refine wpList_load_row rfl 53 _ rfl C0 rfl 53 _ (0, 0) _ H0.out.b2 Try.underlying53 rfl info_w ?_)
  refine (wcopy_S t m y z p d o g u n sa sc sl ga gc gl da dc dl ua uc ul na nc nl W0 _ (HR.out.kept (H0.out.k.grown (World.grownBy.refl _ _) (Nat.le_of_eq HCC.out.symm))) H0.out.l.xl (by omega) (by omega) (by omega) (by omega) (by omega) hum hnm).mono ?_
  rintro e w1 ⟨sa2, sc2, ga2, gc2, da2, dc2, ua2, uc2, us, na2, nc2, ns, rfl, hl, hg, hus, hns⟩
  have H1 := Lib.hid (H0.out.anew hl hg)
  have hW2 := HW.out
  rw [← hus, ← hns] at hW2
  have HW2 := Lib.hid hW2
  have hu2 : us.length ≤ 60 := by rw [o_len hus]; exact hu
  have hn2 : ns.length ≤ 300 := by rw [o_len hns]; exact hn
  have HU2 := Lib.hid (o_len hus)
  obtain ⟨_, _, _, _, _, hum2, hnm2⟩ := wd_le hW2
  clear hl hg hus hns hW2 H0
  have H2 := Lib.hid (H1.out.new 53 #[.int .i64 t, .int .i64 m, .int .i64 y, .int .i64 z, .int .i64 p, .int .i64 d, .int .i64 o, .int .i64 g, .int .i64 u, .int .i64 n, .slice sa2 sl.length sc2, .slice ga2 gl.length gc2, .slice da2 dl.length dc2, .slice ua2 us.length uc2, .slice na2 ns.length nc2])
  go_upto_region 3 with fail
  generalize w1.alloc (.cells #[.int .i64 t, .int .i64 m, .int .i64 y, .int .i64 z, .int .i64 p, .int .i64 d, .int .i64 o, .int .i64 g, .int .i64 u, .int .i64 n, .slice sa2 sl.length sc2, .slice ga2 gl.length gc2, .slice da2 dl.length dc2, .slice ua2 us.length uc2, .slice na2 ns.length nc2] 53) = w2 at *
  generalize w1.heap.size = C3 at *
  clear H1
  have kd0 : (w2).cell? ⟨C1, 0, none⟩ = some (.int .i64 2) := H2.out.b2.c 0 rfl
  have n1 : (w2).cell? ⟨C1, 1, none⟩ = some (.int .i64 sat) := H2.out.b2.c 1 rfl
  have c12 : (w2).cell? ⟨C3, 12, none⟩ = some (.slice da2 dl.length dc2) := H2.out.b0.c 12 rfl
  have hw1 : IntKind.i64.wrap ((dl.length : Int) - 1) = (dl.length : Int) - 1 := IntWalk.i64_in _ (by omega)
  go_wp2_with fail
  refine (in_any _ _ _ _).mono ?_
  rintro e w' ⟨rfl, rfl⟩
  have hb : inB sat 0 ((dl.length : Int) - 1) = false := by unfold inB; exact decide_eq_false (by omega)
  rw [hb]
  clear hb hw1
  clear n1 c12
  go_upto_region 9 with fail
  have HK := Lib.hid (H2.out.row1 #[.int .i64 t, .int .i64 m, .int .i64 y, .int .i64 z, .int .i64 p, .int .i64 d, .int .i64 o, .int .i64 g, .int .i64 u, .int .i64 n, .slice sa2 sl.length sc2, .slice ga2 gl.length gc2, .slice da2 dl.length dc2, .slice ua2 us.length uc2, .slice na2 ns.length nc2])
  go_wp2_with (first | (refine wpList_load_row rfl 53 _ rfl C3 rfl 53 _ (0, 0) _ H2.out.b0 Try.underlying53 rfl info_w ?_) | (refine wpList_store_row rfl 53 _ _ rfl C2 #[.int .i64 t, .int .i64 m, .int .i64 y, .int .i64 z, .int .i64 p, .int .i64 d, .int .i64 o, .int .i64 g, .int .i64 u, .int .i64 n, .slice sa2 sl.length sc2, .slice ga2 gl.length gc2, .slice da2 dl.length dc2, .slice ua2 us.length uc2, .slice na2 ns.length nc2] rfl rfl 53 _ H2.out.b1 info_w rfl (by simp [Value.oneCell']) ?_))
  generalize (w2.setRow C2 #[.int .i64 t, .int .i64 m, .int .i64 y, .int .i64 z, .int .i64 p, .int .i64 d, .int .i64 o, .int .i64 g, .int .i64 u, .int .i64 n, .slice sa2 sl.length sc2, .slice ga2 gl.length gc2, .slice da2 dl.length dc2, .slice ua2 us.length uc2, .slice na2 ns.length nc2]) = wz at *
  refine bodyPost_ret (v := .tuple #[.agg #[.int .i64 t, .int .i64 m, .int .i64 y, .int .i64 z, .int .i64 p, .int .i64 d, .int .i64 o, .int .i64 g, .int .i64 u, .int .i64 n, .slice sa2 sl.length sc2, .slice ga2 gl.length gc2, .slice da2 dl.length dc2, .slice ua2 us.length uc2, .slice na2 ns.length nc2], .int .i64 (2)]) (results_world Try.results30 _ _ C2 53 _ (0, 0) _ _ rfl rfl HK.out.b1 Try.underlying53 rfl info_w) rfl ?_
  refine ⟨⟨t, m, y, z, p, d, o, g, u, n, sa2, sc2, sl, ga2, gc2, gl, da2, dc2, dl, ua2, uc2, us, na2, nc2, ns⟩, 2, by simp [Wv.v], LwAt.base HK.out.fin.1 (Nat.le_of_eq HCC.out.symm), HK.out.k.grown (World.grownBy.refl _ _) (Nat.le_of_eq HCC.out.symm), ?_⟩
  unfold Wv.le
  dsimp only
  exact ⟨by omega, by omega, by omega, by omega, by omega, hum2, hnm2⟩

set_option maxRecDepth 100000 in
set_option maxHeartbeats 8000000 in
theorem do_downT (t m y z p d o g u n : Int) (sa : Option Addr) (sc : Nat) (sl : List Rg) (ga : Option Addr) (gc : Nat) (gl : List Pk) (da : Option Addr) (dc : Nat) (dl : List Rg) (ua : Option Addr) (uc : Nat) (ul : List Nt) (na : Option Addr) (nc : Nat) (nl : List Nt) (k : Nat) (w : World) (X : List Nat) (h : LrAt w sa sc sl ga gc gl da dc dl ua uc ul na nc nl) (hX : ∀ b ∈ X, b < w.heap.size) (hw : wdP t ⟨m, y, z, p, d, o, g⟩ u n sl gl dl (ul.map Nt.o) (nl.map Nt.o)) (hk9 : k < dl.length) :
    Calls Try.prog 30 #[.agg #[.int .i64 t, .int .i64 m, .int .i64 y, .int .i64 z, .int .i64 p, .int .i64 d, .int .i64 o, .int .i64 g, .int .i64 u, .int .i64 n, .slice sa sl.length sc, .slice ga gl.length gc, .slice da dl.length dc, .slice ua ul.length uc, .slice na nl.length nc], .agg #[.int .i64 2, .int .i64 (k : Int), .bool true]] w (DoPost w X) := by
  obtain ⟨i0, hi, hz0, hz1, hz2⟩ := info_of infoRg
  obtain ⟨i1, ki, kz0, kz1, kz2⟩ := info_of infoNt
  obtain ⟨hd, hu, hn, hsl, hgl, hum, hnm⟩ := wd_le hw
  have HR := Lib.hid h
  have HW := Lib.hid hw
  clear hw
  obtain ⟨C0, hC0⟩ : ∃ C, C = w.heap.size := ⟨_, rfl⟩
  obtain ⟨C1, hC1⟩ : ∃ C, C = w.heap.size + 1 := ⟨_, rfl⟩
  obtain ⟨C2, hC2⟩ : ∃ C, C = w.heap.size + 1 + 1 := ⟨_, rfl⟩
  have k := ((((Sw.start (LwAt.nil w w.heap.size X hX) (Nat.le_refl _)).new 53 #[.int .i64 t, .int .i64 m, .int .i64 y, .int .i64 z, .int .i64 p, .int .i64 d, .int .i64 o, .int .i64 g, .int .i64 u, .int .i64 n, .slice sa sl.length sc, .slice ga gl.length gc, .slice da dl.length dc, .slice ua ul.length uc, .slice na nl.length nc]).new 59 #[.int .i64 2, .int .i64 (k : Int), .bool true]).new 53 #[.int .i64 0, .int .i64 0, .int .i64 0, .int .i64 0, .int .i64 0, .int .i64 0, .int .i64 0, .int .i64 0, .int .i64 0, .int .i64 0, .slice none 0 0, .slice none 0 0, .slice none 0 0, .slice none 0 0, .slice none 0 0])
  simp only [World.size_alloc] at k
  rw [← hC2, ← hC1, ← hC0] at k
  have H0 := Lib.hid k
  clear k h hX
  go_enter Try.func30, Try.ntmps30
  go_upto_region 1 with fail
  try simp only [World.size_alloc]
  try rw [← hC2]
  try rw [← hC1]
  try rw [← hC0]
  have HCC := Lib.hid hC0
  clear hC0 hC1 hC2
  generalize (((w.alloc (.cells #[.int .i64 t, .int .i64 m, .int .i64 y, .int .i64 z, .int .i64 p, .int .i64 d, .int .i64 o, .int .i64 g, .int .i64 u, .int .i64 n, .slice sa sl.length sc, .slice ga gl.length gc, .slice da dl.length dc, .slice ua ul.length uc, .slice na nl.length nc] 53)).alloc (.cells #[.int .i64 2, .int .i64 (k : Int), .bool true] 59)).alloc (.cells #[.int .i64 0, .int .i64 0, .int .i64 0, .int .i64 0, .int .i64 0, .int .i64 0, .int .i64 0, .int .i64 0, .int .i64 0, .int .i64 0, .slice none 0 0, .slice none 0 0, .slice none 0 0, .slice none 0 0, .slice none 0 0] 53)) = W0 at *
  go_wp2_with (refine wpList_load_row rfl 53 _ rfl C0 rfl 53 _ (0, 0) _ H0.out.b2 Try.underlying53 rfl info_w ?_)
  refine (wcopy_S t m y z p d o g u n sa sc sl ga gc gl da dc dl ua uc ul na nc nl W0 _ (HR.out.kept (H0.out.k.grown (World.grownBy.refl _ _) (Nat.le_of_eq HCC.out.symm))) H0.out.l.xl (by omega) (by omega) (by omega) (by omega) (by omega) hum hnm).mono ?_
  rintro e w1 ⟨sa2, sc2, ga2, gc2, da2, dc2, ua2, uc2, us, na2, nc2, ns, rfl, hl, hg, hus, hns⟩
  have H1 := Lib.hid (H0.out.anew hl hg)
  have hW2 := HW.out
  rw [← hus, ← hns] at hW2
  have HW2 := Lib.hid hW2
  have hu2 : us.length ≤ 60 := by rw [o_len hus]; exact hu
  have hn2 : ns.length ≤ 300 := by rw [o_len hns]; exact hn
  have HU2 := Lib.hid (o_len hus)
  obtain ⟨_, _, _, _, _, hum2, hnm2⟩ := wd_le hW2
  clear hl hg hus hns hW2 H0
  have H2 := Lib.hid (H1.out.new 53 #[.int .i64 t, .int .i64 m, .int .i64 y, .int .i64 z, .int .i64 p, .int .i64 d, .int .i64 o, .int .i64 g, .int .i64 u, .int .i64 n, .slice sa2 sl.length sc2, .slice ga2 gl.length gc2, .slice da2 dl.length dc2, .slice ua2 us.length uc2, .slice na2 ns.length nc2])
  go_upto_region 3 with fail
  generalize w1.alloc (.cells #[.int .i64 t, .int .i64 m, .int .i64 y, .int .i64 z, .int .i64 p, .int .i64 d, .int .i64 o, .int .i64 g, .int .i64 u, .int .i64 n, .slice sa2 sl.length sc2, .slice ga2 gl.length gc2, .slice da2 dl.length dc2, .slice ua2 us.length uc2, .slice na2 ns.length nc2] 53) = w2 at *
  generalize w1.heap.size = C3 at *
  clear H1
  have kd0 : (w2).cell? ⟨C1, 0, none⟩ = some (.int .i64 2) := H2.out.b2.c 0 rfl
  have hk : k < dl.length := by omega
  rcases own_form H2.out.l.d with ⟨_, _, h0⟩ | ⟨bq, rfl⟩
  · exfalso
    omega
  have hkI : (k : Int) < (dl.length : Int) := by omega
  have hk0 : (0 : Int) ≤ (k : Int) := by omega
  have n1 : (w2).cell? ⟨C1, 1, none⟩ = some (.int .i64 (k : Int)) := H2.out.b2.c 1 rfl
  have c12 : (w2).cell? ⟨C3, 12, none⟩ = some (.slice (some ⟨bq, 0, none⟩) dl.length dc2) := H2.out.b0.c 12 rfl
  have hw1 : IntKind.i64.wrap ((dl.length : Int) - 1) = (dl.length : Int) - 1 := IntWalk.i64_in _ (by omega)
  go_wp2_with fail
  refine (in_any _ _ _ _).mono ?_
  rintro e w' ⟨rfl, rfl⟩
  have hb : inB (k : Int) 0 ((dl.length : Int) - 1) = true := by unfold inB; exact decide_eq_true (by omega)
  rw [hb]
  clear hb hw1
  go_upto_region 10 with fail
  obtain ⟨p0, p1⟩ := x_rg (cells_own H2.out.l.d) hk
  have hdx := HW.out.2.2.2.2.1.1 _ (List.getElem_mem hk)
  generalize dl[k] = xx at *
  obtain ⟨x1, x2⟩ := xx
  dsimp only at p0 p1
  obtain ⟨hx0, hx1, hx2, hx3⟩ := hdx
  dsimp only at hx0 hx1 hx2 hx3
  have HXS := Lib.hid (And.intro hx0 (And.intro hx1 (And.intro hx2 hx3)))
  clear hx0 hx1 hx2 hx3
  have hk9 := H2.out.new 44 #[.int .i64 x1, .int .i64 x2]
  have HB := Lib.hid hk9
  clear hk9
  go_upto_region 11 with fail
  clear n1 c12 p0 p1
  generalize w2.alloc (.cells #[.int .i64 x1, .int .i64 x2] 44) = wb at *
  generalize w2.heap.size = C4 at *
  clear H2
  obtain ⟨hcap, hmx⟩ := cap_own HB.out.l.d
  unfold maxLen at hmx
  have hkc : (k : Int) ≤ (dc2 : Int) := by omega
  have hk1 : (k : Int) ≤ (dl.length : Int) := by omega
  have hq : IntKind.i64.wrap ((k : Int) + 1) = ((k + 1 : Nat) : Int) := by rw [IntWalk.i64_in _ (by omega)]; omega
  have hk3 : ((k + 1 : Nat) : Int) ≤ (dl.length : Int) := by omega
  have hk4 : (0 : Int) ≤ (k : Int) + 1 := by omega
  have hk5 : (k : Int) + 1 ≤ (dl.length : Int) := by omega
  obtain ⟨ad, hAd, hAd2⟩ : ∃ ad : Addr, (if dc2 = k + 1 then some ⟨bq, 0, none⟩ else some ⟨bq, (k + 1) * 2, none⟩ : Option Addr) = some ad ∧ (k + 1 < dl.length → ad = ⟨bq, (k + 1) * 2, none⟩) := by
    by_cases hc : dc2 = k + 1
    · exact ⟨_, if_pos hc, fun h => by omega⟩
    · exact ⟨_, if_neg hc, fun _ => rfl⟩
  have HAd := Lib.hid hAd2
  clear hAd2
  obtain ⟨d1, hd1⟩ : ∃ q, q = dl.take k := ⟨_, rfl⟩
  obtain ⟨d2, hd2⟩ : ∃ q, q = dl.drop (k + 1) := ⟨_, rfl⟩
  obtain ⟨d4, hd4⟩ : ∃ q, q = d1 ++ d2 := ⟨_, rfl⟩
  have HL1 := Lib.hid (show d1.length = k by rw [hd1, List.length_take]; omega)
  have HD4 := Lib.hid (show d4 = d1 ++ d2 ∧ d1.length + (dl.length - (k + 1)) = d4.length from ⟨hd4, by rw [hd4, List.length_append, hd2, List.length_drop]⟩)
  have HL4 := Lib.hid (show d4.length ≤ dl.length by rw [hd4, List.length_append, hd1, hd2, List.length_take, List.length_drop]; omega)
  clear hd4
  refine wp_region_held_drew (S := fun w' => w'.cell? ⟨C1, 1, none⟩ = some (.int .i64 (k : Int))) (by kernel_rfl) (by have hd := HB.out.keep (grownBy_drew (r := none)); exact ((hd).b3.c 1 rfl)) (fun hS => ?_)
  have HD0 := Lib.hid (HB.out.keep (grownBy_drew (r := none)))
  generalize wb.drew = Wd at *
  have hpp := src_partsR (c := dc2) (cells_own HD0.out.l.d) hk HAd.out
  rw [← hd1, ← hd2] at hpp
  have HP := Lib.hid hpp
  clear hpp hd1 hd2
  refine' (fun (tail : ∀ (q0 : Nat) (da3 : Option Addr) (dc3 : Nat) (W : World), q0 = Wd.heap.size → Sw w C0 X [(C4, 44, #[.int .i64 x1, .int .i64 x2]), (C3, 53, #[.int .i64 t, .int .i64 m, .int .i64 y, .int .i64 z, .int .i64 p, .int .i64 d, .int .i64 o, .int .i64 g, .int .i64 u, .int .i64 n, .slice sa2 sl.length sc2, .slice ga2 gl.length gc2, .slice (some ⟨bq, 0, none⟩) dl.length dc2, .slice ua2 us.length uc2, .slice na2 ns.length nc2]), (C2, 53, #[.int .i64 0, .int .i64 0, .int .i64 0, .int .i64 0, .int .i64 0, .int .i64 0, .int .i64 0, .int .i64 0, .int .i64 0, .int .i64 0, .slice none 0 0, .slice none 0 0, .slice none 0 0, .slice none 0 0, .slice none 0 0]), (C1, 59, #[.int .i64 2, .int .i64 (k : Int), .bool true]), (C0, 53, #[.int .i64 t, .int .i64 m, .int .i64 y, .int .i64 z, .int .i64 p, .int .i64 d, .int .i64 o, .int .i64 g, .int .i64 u, .int .i64 n, .slice sa sl.length sc, .slice ga gl.length gc, .slice da dl.length dc, .slice ua ul.length uc, .slice na nl.length nc])] sa2 sc2 sl ga2 gc2 gl da3 dc3 d1 ua2 uc2 us na2 nc2 ns W → W.ownsRow q0 44 2 (.slice da3 d1.length dc3) d1.length (rgsV d1) ∧ Wd.grownBy W none → (_ : Nat → Option Addr → Nat → World → Prop) q0 da3 dc3 W) => ?main) ?tl
  case main =>
    refine wpAnyH_take (i := 1) (v := ?_) rfl (by kernel_rfl) (by kernel_rfl) (by kernel_rfl) (fun _ _ _ h => h) (Or.inl ⟨by kernel_rfl, ?_⟩) hS ?_
    rotate_left
    · intro w' hSw
      obtain g0 := hSw
      first | (go_simp; done) | (go_simp; with_reducible rfl)
    simp only [List.getElem_toArray, List.getElem_cons_zero, List.getElem_cons_succ, Act.put, List.setIfInBounds_toArray, List.set_cons_zero, List.set_cons_succ]
    refine wpAnyH_take (i := 3) (v := ?_) rfl (by kernel_rfl) (by kernel_rfl) (by kernel_rfl) (fun _ _ _ h => h) (Or.inl ⟨by kernel_rfl, ?_⟩) hS ?_
    rotate_left
    · intro w' hSw
      obtain g0 := hSw
      first | (go_simp; done) | (go_simp; with_reducible rfl)
    simp only [List.getElem_toArray, List.getElem_cons_zero, List.getElem_cons_succ, Act.put, List.setIfInBounds_toArray, List.set_cons_zero, List.set_cons_succ]
    refine wpAnyH_take (i := 4) (v := ?_) rfl (by kernel_rfl) (by kernel_rfl) (by kernel_rfl) (fun _ _ _ h => h) (Or.inl ⟨by kernel_rfl, ?_⟩) hS ?_
    rotate_left
    · intro w' hSw
      obtain g0 := hSw
      first | (go_simp; done) | (go_simp; with_reducible rfl)
    simp only [List.getElem_toArray, List.getElem_cons_zero, List.getElem_cons_succ, Act.put, List.setIfInBounds_toArray, List.set_cons_zero, List.set_cons_succ]
    refine wpAnyH_take (i := 7) (v := ?_) rfl (by kernel_rfl) (by kernel_rfl) (by kernel_rfl) (fun _ _ _ h => h) (Or.inl ⟨by kernel_rfl, ?_⟩) hS ?_
    rotate_left
    · intro w' hSw
      obtain g0 := hSw
      first | (go_simp; done) | (go_simp; with_reducible rfl)
    simp only [List.getElem_toArray, List.getElem_cons_zero, List.getElem_cons_succ, Act.put, List.setIfInBounds_toArray, List.set_cons_zero, List.set_cons_succ]
    refine wpAnyH_take (i := 9) (v := ?_) rfl (by kernel_rfl) (by kernel_rfl) (by kernel_rfl) (fun _ _ _ h => h) (Or.inl ⟨by kernel_rfl, ?_⟩) hS ?_
    rotate_left
    · intro w' hSw
      obtain g0 := hSw
      first | (go_simp; done) | (go_simp; with_reducible rfl)
    simp only [List.getElem_toArray, List.getElem_cons_zero, List.getElem_cons_succ, Act.put, List.setIfInBounds_toArray, List.set_cons_zero, List.set_cons_succ]
    refine wpAnyH_take (i := 10) (v := ?_) rfl (by kernel_rfl) (by kernel_rfl) (by kernel_rfl) (fun _ _ _ h => h) (Or.inl ⟨by kernel_rfl, ?_⟩) hS ?_
    rotate_left
    · intro w' hSw
      obtain g0 := hSw
      first | (go_simp; done) | (go_simp; with_reducible rfl)
    simp only [List.getElem_toArray, List.getElem_cons_zero, List.getElem_cons_succ, Act.put, List.setIfInBounds_toArray, List.set_cons_zero, List.set_cons_succ]
    refine wpAnyH_take (i := 11) (v := ?_) rfl (by kernel_rfl) (by kernel_rfl) (by kernel_rfl) (fun _ _ _ h => h) (Or.inl ⟨by kernel_rfl, ?_⟩) hS ?_
    rotate_left
    · intro w' hSw
      obtain g0 := hSw
      first | (go_simp; done) | (go_simp; with_reducible rfl)
    simp only [List.getElem_toArray, List.getElem_cons_zero, List.getElem_cons_succ, Act.put, List.setIfInBounds_toArray, List.set_cons_zero, List.set_cons_succ]
    refine wpAnyH_ready (rs := [0, 2, 8]) (by kernel_rfl) (List.cons_ne_nil _ _) ?_
    refine AllReadyH.cons rfl (fun K hK => ?_) ?_
    · go_simp
      obtain ⟨q0, hq0⟩ : ∃ q, q = Wd.heap.size := ⟨_, rfl⟩
      have hu0 := HD0.out.emptyD (World.grownBy_alloc Wd (.cells #[] 44) none) (Nat.le_refl _) (World.alloc_heap_new Wd _)
      have ho0 := And.intro (row_empty Wd 44 2 _ (Nat.le_refl _)) (World.grownBy_alloc Wd (.cells #[] 44) none)
      rw [← hq0] at hu0 ho0
      try rw [← hq0]
      have HU0 := Lib.hid hu0
      have HO := Lib.hid ho0
      have HQ0 := Lib.hid hq0
      clear hq0 hu0 ho0
      refine hK.out _ _ ((HU0.out).b3.c 1 rfl) (fun hS => ?_)
      generalize Wd.alloc (.cells #[] 44) = u0 at *
      clear hK
      try simp only [List.getElem_toArray, List.getElem_cons_zero, List.getElem_cons_succ, Act.put, List.setIfInBounds_toArray, List.set_cons_zero, List.set_cons_succ]
      refine wpAnyH_ready (rs := [2, 8]) (by kernel_rfl) (List.cons_ne_nil _ _) ?_
      refine AllReadyH.cons rfl (fun K hK => ?_) ?_
      · have zz12 : (u0).cell? ⟨C3, 12, none⟩ = some (.slice (some ⟨bq, 0, none⟩) dl.length dc2) := HU0.out.b1.c 12 rfl
        go_simp
        refine hK.out _ _ ((HU0.out).b3.c 1 rfl) (fun hS => ?_)
        clear zz12
        clear hK
        try simp only [List.getElem_toArray, List.getElem_cons_zero, List.getElem_cons_succ, Act.put, List.setIfInBounds_toArray, List.set_cons_zero, List.set_cons_succ]
        refine wpAnyH_take (i := 5) (v := .slice (some ⟨bq, 0, none⟩) k dc2) rfl (by kernel_rfl) (by kernel_rfl) (by kernel_rfl) (fun _ _ _ h => h) (Or.inl ⟨by kernel_rfl, ?_⟩) hS ?_
        · intro w' hSw
          obtain g0 := hSw
          first | (go_simp; done) | (go_simp; with_reducible rfl)
        simp only [List.getElem_toArray, List.getElem_cons_zero, List.getElem_cons_succ, Act.put, List.setIfInBounds_toArray, List.set_cons_zero, List.set_cons_succ]
        refine wpAnyH_ready (rs := [6, 8]) (by kernel_rfl) (List.cons_ne_nil _ _) ?_
        refine AllReadyH.cons rfl (fun K hK => ?_) ?_
        · refine step_append_srcA (by rfl) _ _ _ (by rfl) q0 44 i0 _ 2 16 Try.underlying31 hi hz0 hz1 hz2 rfl (by decide) _ 0 [] (by rfl) HO.out.1 _ k (rgsV d1) (by rfl) (HP.out.1.kept HO.out.2) (rgsV_one _) (by unfold maxLen; omega) (by omega) (by rw [HQ0.out]; exact HO.out.2.size) ?_
          intro v6 u6 ho hg hat
          rw [Nat.zero_add, List.nil_append, ← HL1.out] at ho
          obtain ⟨da3, dc3, rfl⟩ := own_slice ho
          have HU6 := Lib.hid (HU0.out.growD (own_base ho (by rw [HQ0.out]; exact Nat.le_trans HD0.out.hB HD0.out.k.size)) hg hat)
          have HG6 := Lib.hid (And.intro ho (grown_off HO.out.2 hg (fun b hb => by cases hb; exact Nat.le_of_eq HQ0.out.symm)))
          clear ho hg hat
          refine hK.out _ _ ((HU6.out).b3.c 1 rfl) (fun hS => ?_)
          clear hK
          try simp only [List.getElem_toArray, List.getElem_cons_zero, List.getElem_cons_succ, Act.put, List.setIfInBounds_toArray, List.set_cons_zero, List.set_cons_succ]
          refine wpAnyH_ready (rs := [8]) (by kernel_rfl) (List.cons_ne_nil _ _) ?_
          refine AllReadyH.cons rfl (fun K hK => ?_) AllReadyH.nil
          have zz12 : (u6).cell? ⟨C3, 12, none⟩ = some (.slice (some ⟨bq, 0, none⟩) dl.length dc2) := HU6.out.b1.c 12 rfl
          go_simp
          refine hK.out _ _ ((HU6.out).b3.c 1 rfl) (fun hS => ?_)
          clear zz12
          clear hK
          try simp only [List.getElem_toArray, List.getElem_cons_zero, List.getElem_cons_succ, Act.put, List.setIfInBounds_toArray, List.set_cons_zero, List.set_cons_succ]
          refine wpAnyH_take (i := 12) (v := .slice (some ad) (dl.length - (k + 1)) (dc2 - (k + 1))) rfl (by kernel_rfl) (by kernel_rfl) (by kernel_rfl) (fun _ _ _ h => h) (Or.inl ⟨by kernel_rfl, ?_⟩) hS ?_
          · intro w' hSw
            obtain g0 := hSw
            first | (go_simp; done) | (go_simp; with_reducible rfl)
          simp only [List.getElem_toArray, List.getElem_cons_zero, List.getElem_cons_succ, Act.put, List.setIfInBounds_toArray, List.set_cons_zero, List.set_cons_succ]
          exact tail q0 da3 dc3 u6 HQ0.out HU6.out HG6.out
        refine AllReadyH.cons rfl (fun K hK => ?_) ?_
        · have zz12 : (u0).cell? ⟨C3, 12, none⟩ = some (.slice (some ⟨bq, 0, none⟩) dl.length dc2) := HU0.out.b1.c 12 rfl
          go_simp
          refine hK.out _ _ ((HU0.out).b3.c 1 rfl) (fun hS => ?_)
          clear zz12
          clear hK
          try simp only [List.getElem_toArray, List.getElem_cons_zero, List.getElem_cons_succ, Act.put, List.setIfInBounds_toArray, List.set_cons_zero, List.set_cons_succ]
          refine wpAnyH_take (i := 12) (v := .slice (some ad) (dl.length - (k + 1)) (dc2 - (k + 1))) rfl (by kernel_rfl) (by kernel_rfl) (by kernel_rfl) (fun _ _ _ h => h) (Or.inl ⟨by kernel_rfl, ?_⟩) hS ?_
          · intro w' hSw
            obtain g0 := hSw
            first | (go_simp; done) | (go_simp; with_reducible rfl)
          simp only [List.getElem_toArray, List.getElem_cons_zero, List.getElem_cons_succ, Act.put, List.setIfInBounds_toArray, List.set_cons_zero, List.set_cons_succ]
          refine wpAnyH_ready (rs := [6]) (by kernel_rfl) (List.cons_ne_nil _ _) ?_
          refine AllReadyH.cons rfl (fun K hK => ?_) AllReadyH.nil
          refine step_append_srcA (by rfl) _ _ _ (by rfl) q0 44 i0 _ 2 16 Try.underlying31 hi hz0 hz1 hz2 rfl (by decide) _ 0 [] (by rfl) HO.out.1 _ k (rgsV d1) (by rfl) (HP.out.1.kept HO.out.2) (rgsV_one _) (by unfold maxLen; omega) (by omega) (by rw [HQ0.out]; exact HO.out.2.size) ?_
          intro v6 u6 ho hg hat
          rw [Nat.zero_add, List.nil_append, ← HL1.out] at ho
          obtain ⟨da3, dc3, rfl⟩ := own_slice ho
          have HU6 := Lib.hid (HU0.out.growD (own_base ho (by rw [HQ0.out]; exact Nat.le_trans HD0.out.hB HD0.out.k.size)) hg hat)
          have HG6 := Lib.hid (And.intro ho (grown_off HO.out.2 hg (fun b hb => by cases hb; exact Nat.le_of_eq HQ0.out.symm)))
          clear ho hg hat
          refine hK.out _ _ ((HU6.out).b3.c 1 rfl) (fun hS => ?_)
          clear hK
          try simp only [List.getElem_toArray, List.getElem_cons_zero, List.getElem_cons_succ, Act.put, List.setIfInBounds_toArray, List.set_cons_zero, List.set_cons_succ]
          exact tail q0 da3 dc3 u6 HQ0.out HU6.out HG6.out
        exact AllReadyH.nil
      refine AllReadyH.cons rfl (fun K hK => ?_) ?_
      · have zz12 : (u0).cell? ⟨C3, 12, none⟩ = some (.slice (some ⟨bq, 0, none⟩) dl.length dc2) := HU0.out.b1.c 12 rfl
        go_simp
        refine hK.out _ _ ((HU0.out).b3.c 1 rfl) (fun hS => ?_)
        clear zz12
        clear hK
        try simp only [List.getElem_toArray, List.getElem_cons_zero, List.getElem_cons_succ, Act.put, List.setIfInBounds_toArray, List.set_cons_zero, List.set_cons_succ]
        refine wpAnyH_take (i := 12) (v := .slice (some ad) (dl.length - (k + 1)) (dc2 - (k + 1))) rfl (by kernel_rfl) (by kernel_rfl) (by kernel_rfl) (fun _ _ _ h => h) (Or.inl ⟨by kernel_rfl, ?_⟩) hS ?_
        · intro w' hSw
          obtain g0 := hSw
          first | (go_simp; done) | (go_simp; with_reducible rfl)
        simp only [List.getElem_toArray, List.getElem_cons_zero, List.getElem_cons_succ, Act.put, List.setIfInBounds_toArray, List.set_cons_zero, List.set_cons_succ]
        refine wpAnyH_ready (rs := [2]) (by kernel_rfl) (List.cons_ne_nil _ _) ?_
        refine AllReadyH.cons rfl (fun K hK => ?_) AllReadyH.nil
        have zz12 : (u0).cell? ⟨C3, 12, none⟩ = some (.slice (some ⟨bq, 0, none⟩) dl.length dc2) := HU0.out.b1.c 12 rfl
        go_simp
        refine hK.out _ _ ((HU0.out).b3.c 1 rfl) (fun hS => ?_)
        clear zz12
        clear hK
        try simp only [List.getElem_toArray, List.getElem_cons_zero, List.getElem_cons_succ, Act.put, List.setIfInBounds_toArray, List.set_cons_zero, List.set_cons_succ]
        refine wpAnyH_take (i := 5) (v := .slice (some ⟨bq, 0, none⟩) k dc2) rfl (by kernel_rfl) (by kernel_rfl) (by kernel_rfl) (fun _ _ _ h => h) (Or.inl ⟨by kernel_rfl, ?_⟩) hS ?_
        · intro w' hSw
          obtain g0 := hSw
          first | (go_simp; done) | (go_simp; with_reducible rfl)
        simp only [List.getElem_toArray, List.getElem_cons_zero, List.getElem_cons_succ, Act.put, List.setIfInBounds_toArray, List.set_cons_zero, List.set_cons_succ]
        refine wpAnyH_ready (rs := [6]) (by kernel_rfl) (List.cons_ne_nil _ _) ?_
        refine AllReadyH.cons rfl (fun K hK => ?_) AllReadyH.nil
        refine step_append_srcA (by rfl) _ _ _ (by rfl) q0 44 i0 _ 2 16 Try.underlying31 hi hz0 hz1 hz2 rfl (by decide) _ 0 [] (by rfl) HO.out.1 _ k (rgsV d1) (by rfl) (HP.out.1.kept HO.out.2) (rgsV_one _) (by unfold maxLen; omega) (by omega) (by rw [HQ0.out]; exact HO.out.2.size) ?_
        intro v6 u6 ho hg hat
        rw [Nat.zero_add, List.nil_append, ← HL1.out] at ho
        obtain ⟨da3, dc3, rfl⟩ := own_slice ho
        have HU6 := Lib.hid (HU0.out.growD (own_base ho (by rw [HQ0.out]; exact Nat.le_trans HD0.out.hB HD0.out.k.size)) hg hat)
        have HG6 := Lib.hid (And.intro ho (grown_off HO.out.2 hg (fun b hb => by cases hb; exact Nat.le_of_eq HQ0.out.symm)))
        clear ho hg hat
        refine hK.out _ _ ((HU6.out).b3.c 1 rfl) (fun hS => ?_)
        clear hK
        try simp only [List.getElem_toArray, List.getElem_cons_zero, List.getElem_cons_succ, Act.put, List.setIfInBounds_toArray, List.set_cons_zero, List.set_cons_succ]
        exact tail q0 da3 dc3 u6 HQ0.out HU6.out HG6.out
      exact AllReadyH.nil
    refine AllReadyH.cons rfl (fun K hK => ?_) ?_
    · have zz12 : (Wd).cell? ⟨C3, 12, none⟩ = some (.slice (some ⟨bq, 0, none⟩) dl.length dc2) := HD0.out.b1.c 12 rfl
      go_simp
      refine hK.out _ _ ((HD0.out).b3.c 1 rfl) (fun hS => ?_)
      clear zz12
      clear hK
      try simp only [List.getElem_toArray, List.getElem_cons_zero, List.getElem_cons_succ, Act.put, List.setIfInBounds_toArray, List.set_cons_zero, List.set_cons_succ]
      refine wpAnyH_take (i := 5) (v := .slice (some ⟨bq, 0, none⟩) k dc2) rfl (by kernel_rfl) (by kernel_rfl) (by kernel_rfl) (fun _ _ _ h => h) (Or.inl ⟨by kernel_rfl, ?_⟩) hS ?_
      · intro w' hSw
        obtain g0 := hSw
        first | (go_simp; done) | (go_simp; with_reducible rfl)
      simp only [List.getElem_toArray, List.getElem_cons_zero, List.getElem_cons_succ, Act.put, List.setIfInBounds_toArray, List.set_cons_zero, List.set_cons_succ]
      refine wpAnyH_ready (rs := [0, 8]) (by kernel_rfl) (List.cons_ne_nil _ _) ?_
      refine AllReadyH.cons rfl (fun K hK => ?_) ?_
      · go_simp
        obtain ⟨q0, hq0⟩ : ∃ q, q = Wd.heap.size := ⟨_, rfl⟩
        have hu0 := HD0.out.emptyD (World.grownBy_alloc Wd (.cells #[] 44) none) (Nat.le_refl _) (World.alloc_heap_new Wd _)
        have ho0 := And.intro (row_empty Wd 44 2 _ (Nat.le_refl _)) (World.grownBy_alloc Wd (.cells #[] 44) none)
        rw [← hq0] at hu0 ho0
        try rw [← hq0]
        have HU0 := Lib.hid hu0
        have HO := Lib.hid ho0
        have HQ0 := Lib.hid hq0
        clear hq0 hu0 ho0
        refine hK.out _ _ ((HU0.out).b3.c 1 rfl) (fun hS => ?_)
        generalize Wd.alloc (.cells #[] 44) = u0 at *
        clear hK
        try simp only [List.getElem_toArray, List.getElem_cons_zero, List.getElem_cons_succ, Act.put, List.setIfInBounds_toArray, List.set_cons_zero, List.set_cons_succ]
        refine wpAnyH_ready (rs := [6, 8]) (by kernel_rfl) (List.cons_ne_nil _ _) ?_
        refine AllReadyH.cons rfl (fun K hK => ?_) ?_
        · refine step_append_srcA (by rfl) _ _ _ (by rfl) q0 44 i0 _ 2 16 Try.underlying31 hi hz0 hz1 hz2 rfl (by decide) _ 0 [] (by rfl) HO.out.1 _ k (rgsV d1) (by rfl) (HP.out.1.kept HO.out.2) (rgsV_one _) (by unfold maxLen; omega) (by omega) (by rw [HQ0.out]; exact HO.out.2.size) ?_
          intro v6 u6 ho hg hat
          rw [Nat.zero_add, List.nil_append, ← HL1.out] at ho
          obtain ⟨da3, dc3, rfl⟩ := own_slice ho
          have HU6 := Lib.hid (HU0.out.growD (own_base ho (by rw [HQ0.out]; exact Nat.le_trans HD0.out.hB HD0.out.k.size)) hg hat)
          have HG6 := Lib.hid (And.intro ho (grown_off HO.out.2 hg (fun b hb => by cases hb; exact Nat.le_of_eq HQ0.out.symm)))
          clear ho hg hat
          refine hK.out _ _ ((HU6.out).b3.c 1 rfl) (fun hS => ?_)
          clear hK
          try simp only [List.getElem_toArray, List.getElem_cons_zero, List.getElem_cons_succ, Act.put, List.setIfInBounds_toArray, List.set_cons_zero, List.set_cons_succ]
          refine wpAnyH_ready (rs := [8]) (by kernel_rfl) (List.cons_ne_nil _ _) ?_
          refine AllReadyH.cons rfl (fun K hK => ?_) AllReadyH.nil
          have zz12 : (u6).cell? ⟨C3, 12, none⟩ = some (.slice (some ⟨bq, 0, none⟩) dl.length dc2) := HU6.out.b1.c 12 rfl
          go_simp
          refine hK.out _ _ ((HU6.out).b3.c 1 rfl) (fun hS => ?_)
          clear zz12
          clear hK
          try simp only [List.getElem_toArray, List.getElem_cons_zero, List.getElem_cons_succ, Act.put, List.setIfInBounds_toArray, List.set_cons_zero, List.set_cons_succ]
          refine wpAnyH_take (i := 12) (v := .slice (some ad) (dl.length - (k + 1)) (dc2 - (k + 1))) rfl (by kernel_rfl) (by kernel_rfl) (by kernel_rfl) (fun _ _ _ h => h) (Or.inl ⟨by kernel_rfl, ?_⟩) hS ?_
          · intro w' hSw
            obtain g0 := hSw
            first | (go_simp; done) | (go_simp; with_reducible rfl)
          simp only [List.getElem_toArray, List.getElem_cons_zero, List.getElem_cons_succ, Act.put, List.setIfInBounds_toArray, List.set_cons_zero, List.set_cons_succ]
          exact tail q0 da3 dc3 u6 HQ0.out HU6.out HG6.out
        refine AllReadyH.cons rfl (fun K hK => ?_) ?_
        · have zz12 : (u0).cell? ⟨C3, 12, none⟩ = some (.slice (some ⟨bq, 0, none⟩) dl.length dc2) := HU0.out.b1.c 12 rfl
          go_simp
          refine hK.out _ _ ((HU0.out).b3.c 1 rfl) (fun hS => ?_)
          clear zz12
          clear hK
          try simp only [List.getElem_toArray, List.getElem_cons_zero, List.getElem_cons_succ, Act.put, List.setIfInBounds_toArray, List.set_cons_zero, List.set_cons_succ]
          refine wpAnyH_take (i := 12) (v := .slice (some ad) (dl.length - (k + 1)) (dc2 - (k + 1))) rfl (by kernel_rfl) (by kernel_rfl) (by kernel_rfl) (fun _ _ _ h => h) (Or.inl ⟨by kernel_rfl, ?_⟩) hS ?_
          · intro w' hSw
            obtain g0 := hSw
            first | (go_simp; done) | (go_simp; with_reducible rfl)
          simp only [List.getElem_toArray, List.getElem_cons_zero, List.getElem_cons_succ, Act.put, List.setIfInBounds_toArray, List.set_cons_zero, List.set_cons_succ]
          refine wpAnyH_ready (rs := [6]) (by kernel_rfl) (List.cons_ne_nil _ _) ?_
          refine AllReadyH.cons rfl (fun K hK => ?_) AllReadyH.nil
          refine step_append_srcA (by rfl) _ _ _ (by rfl) q0 44 i0 _ 2 16 Try.underlying31 hi hz0 hz1 hz2 rfl (by decide) _ 0 [] (by rfl) HO.out.1 _ k (rgsV d1) (by rfl) (HP.out.1.kept HO.out.2) (rgsV_one _) (by unfold maxLen; omega) (by omega) (by rw [HQ0.out]; exact HO.out.2.size) ?_
          intro v6 u6 ho hg hat
          rw [Nat.zero_add, List.nil_append, ← HL1.out] at ho
          obtain ⟨da3, dc3, rfl⟩ := own_slice ho
          have HU6 := Lib.hid (HU0.out.growD (own_base ho (by rw [HQ0.out]; exact Nat.le_trans HD0.out.hB HD0.out.k.size)) hg hat)
          have HG6 := Lib.hid (And.intro ho (grown_off HO.out.2 hg (fun b hb => by cases hb; exact Nat.le_of_eq HQ0.out.symm)))
          clear ho hg hat
          refine hK.out _ _ ((HU6.out).b3.c 1 rfl) (fun hS => ?_)
          clear hK
          try simp only [List.getElem_toArray, List.getElem_cons_zero, List.getElem_cons_succ, Act.put, List.setIfInBounds_toArray, List.set_cons_zero, List.set_cons_succ]
          exact tail q0 da3 dc3 u6 HQ0.out HU6.out HG6.out
        exact AllReadyH.nil
      refine AllReadyH.cons rfl (fun K hK => ?_) ?_
      · have zz12 : (Wd).cell? ⟨C3, 12, none⟩ = some (.slice (some ⟨bq, 0, none⟩) dl.length dc2) := HD0.out.b1.c 12 rfl
        go_simp
        refine hK.out _ _ ((HD0.out).b3.c 1 rfl) (fun hS => ?_)
        clear zz12
        clear hK
        try simp only [List.getElem_toArray, List.getElem_cons_zero, List.getElem_cons_succ, Act.put, List.setIfInBounds_toArray, List.set_cons_zero, List.set_cons_succ]
        refine wpAnyH_take (i := 12) (v := .slice (some ad) (dl.length - (k + 1)) (dc2 - (k + 1))) rfl (by kernel_rfl) (by kernel_rfl) (by kernel_rfl) (fun _ _ _ h => h) (Or.inl ⟨by kernel_rfl, ?_⟩) hS ?_
        · intro w' hSw
          obtain g0 := hSw
          first | (go_simp; done) | (go_simp; with_reducible rfl)
        simp only [List.getElem_toArray, List.getElem_cons_zero, List.getElem_cons_succ, Act.put, List.setIfInBounds_toArray, List.set_cons_zero, List.set_cons_succ]
        refine wpAnyH_ready (rs := [0]) (by kernel_rfl) (List.cons_ne_nil _ _) ?_
        refine AllReadyH.cons rfl (fun K hK => ?_) AllReadyH.nil
        go_simp
        obtain ⟨q0, hq0⟩ : ∃ q, q = Wd.heap.size := ⟨_, rfl⟩
        have hu0 := HD0.out.emptyD (World.grownBy_alloc Wd (.cells #[] 44) none) (Nat.le_refl _) (World.alloc_heap_new Wd _)
        have ho0 := And.intro (row_empty Wd 44 2 _ (Nat.le_refl _)) (World.grownBy_alloc Wd (.cells #[] 44) none)
        rw [← hq0] at hu0 ho0
        try rw [← hq0]
        have HU0 := Lib.hid hu0
        have HO := Lib.hid ho0
        have HQ0 := Lib.hid hq0
        clear hq0 hu0 ho0
        refine hK.out _ _ ((HU0.out).b3.c 1 rfl) (fun hS => ?_)
        generalize Wd.alloc (.cells #[] 44) = u0 at *
        clear hK
        try simp only [List.getElem_toArray, List.getElem_cons_zero, List.getElem_cons_succ, Act.put, List.setIfInBounds_toArray, List.set_cons_zero, List.set_cons_succ]
        refine wpAnyH_ready (rs := [6]) (by kernel_rfl) (List.cons_ne_nil _ _) ?_
        refine AllReadyH.cons rfl (fun K hK => ?_) AllReadyH.nil
        refine step_append_srcA (by rfl) _ _ _ (by rfl) q0 44 i0 _ 2 16 Try.underlying31 hi hz0 hz1 hz2 rfl (by decide) _ 0 [] (by rfl) HO.out.1 _ k (rgsV d1) (by rfl) (HP.out.1.kept HO.out.2) (rgsV_one _) (by unfold maxLen; omega) (by omega) (by rw [HQ0.out]; exact HO.out.2.size) ?_
        intro v6 u6 ho hg hat
        rw [Nat.zero_add, List.nil_append, ← HL1.out] at ho
        obtain ⟨da3, dc3, rfl⟩ := own_slice ho
        have HU6 := Lib.hid (HU0.out.growD (own_base ho (by rw [HQ0.out]; exact Nat.le_trans HD0.out.hB HD0.out.k.size)) hg hat)
        have HG6 := Lib.hid (And.intro ho (grown_off HO.out.2 hg (fun b hb => by cases hb; exact Nat.le_of_eq HQ0.out.symm)))
        clear ho hg hat
        refine hK.out _ _ ((HU6.out).b3.c 1 rfl) (fun hS => ?_)
        clear hK
        try simp only [List.getElem_toArray, List.getElem_cons_zero, List.getElem_cons_succ, Act.put, List.setIfInBounds_toArray, List.set_cons_zero, List.set_cons_succ]
        exact tail q0 da3 dc3 u6 HQ0.out HU6.out HG6.out
      exact AllReadyH.nil
    refine AllReadyH.cons rfl (fun K hK => ?_) ?_
    · have zz12 : (Wd).cell? ⟨C3, 12, none⟩ = some (.slice (some ⟨bq, 0, none⟩) dl.length dc2) := HD0.out.b1.c 12 rfl
      go_simp
      refine hK.out _ _ ((HD0.out).b3.c 1 rfl) (fun hS => ?_)
      clear zz12
      clear hK
      try simp only [List.getElem_toArray, List.getElem_cons_zero, List.getElem_cons_succ, Act.put, List.setIfInBounds_toArray, List.set_cons_zero, List.set_cons_succ]
      refine wpAnyH_take (i := 12) (v := .slice (some ad) (dl.length - (k + 1)) (dc2 - (k + 1))) rfl (by kernel_rfl) (by kernel_rfl) (by kernel_rfl) (fun _ _ _ h => h) (Or.inl ⟨by kernel_rfl, ?_⟩) hS ?_
      · intro w' hSw
        obtain g0 := hSw
        first | (go_simp; done) | (go_simp; with_reducible rfl)
      simp only [List.getElem_toArray, List.getElem_cons_zero, List.getElem_cons_succ, Act.put, List.setIfInBounds_toArray, List.set_cons_zero, List.set_cons_succ]
      refine wpAnyH_ready (rs := [0, 2]) (by kernel_rfl) (List.cons_ne_nil _ _) ?_
      refine AllReadyH.cons rfl (fun K hK => ?_) ?_
      · go_simp
        obtain ⟨q0, hq0⟩ : ∃ q, q = Wd.heap.size := ⟨_, rfl⟩
        have hu0 := HD0.out.emptyD (World.grownBy_alloc Wd (.cells #[] 44) none) (Nat.le_refl _) (World.alloc_heap_new Wd _)
        have ho0 := And.intro (row_empty Wd 44 2 _ (Nat.le_refl _)) (World.grownBy_alloc Wd (.cells #[] 44) none)
        rw [← hq0] at hu0 ho0
        try rw [← hq0]
        have HU0 := Lib.hid hu0
        have HO := Lib.hid ho0
        have HQ0 := Lib.hid hq0
        clear hq0 hu0 ho0
        refine hK.out _ _ ((HU0.out).b3.c 1 rfl) (fun hS => ?_)
        generalize Wd.alloc (.cells #[] 44) = u0 at *
        clear hK
        try simp only [List.getElem_toArray, List.getElem_cons_zero, List.getElem_cons_succ, Act.put, List.setIfInBounds_toArray, List.set_cons_zero, List.set_cons_succ]
        refine wpAnyH_ready (rs := [2]) (by kernel_rfl) (List.cons_ne_nil _ _) ?_
        refine AllReadyH.cons rfl (fun K hK => ?_) AllReadyH.nil
        have zz12 : (u0).cell? ⟨C3, 12, none⟩ = some (.slice (some ⟨bq, 0, none⟩) dl.length dc2) := HU0.out.b1.c 12 rfl
        go_simp
        refine hK.out _ _ ((HU0.out).b3.c 1 rfl) (fun hS => ?_)
        clear zz12
        clear hK
        try simp only [List.getElem_toArray, List.getElem_cons_zero, List.getElem_cons_succ, Act.put, List.setIfInBounds_toArray, List.set_cons_zero, List.set_cons_succ]
        refine wpAnyH_take (i := 5) (v := .slice (some ⟨bq, 0, none⟩) k dc2) rfl (by kernel_rfl) (by kernel_rfl) (by kernel_rfl) (fun _ _ _ h => h) (Or.inl ⟨by kernel_rfl, ?_⟩) hS ?_
        · intro w' hSw
          obtain g0 := hSw
          first | (go_simp; done) | (go_simp; with_reducible rfl)
        simp only [List.getElem_toArray, List.getElem_cons_zero, List.getElem_cons_succ, Act.put, List.setIfInBounds_toArray, List.set_cons_zero, List.set_cons_succ]
        refine wpAnyH_ready (rs := [6]) (by kernel_rfl) (List.cons_ne_nil _ _) ?_
        refine AllReadyH.cons rfl (fun K hK => ?_) AllReadyH.nil
        refine step_append_srcA (by rfl) _ _ _ (by rfl) q0 44 i0 _ 2 16 Try.underlying31 hi hz0 hz1 hz2 rfl (by decide) _ 0 [] (by rfl) HO.out.1 _ k (rgsV d1) (by rfl) (HP.out.1.kept HO.out.2) (rgsV_one _) (by unfold maxLen; omega) (by omega) (by rw [HQ0.out]; exact HO.out.2.size) ?_
        intro v6 u6 ho hg hat
        rw [Nat.zero_add, List.nil_append, ← HL1.out] at ho
        obtain ⟨da3, dc3, rfl⟩ := own_slice ho
        have HU6 := Lib.hid (HU0.out.growD (own_base ho (by rw [HQ0.out]; exact Nat.le_trans HD0.out.hB HD0.out.k.size)) hg hat)
        have HG6 := Lib.hid (And.intro ho (grown_off HO.out.2 hg (fun b hb => by cases hb; exact Nat.le_of_eq HQ0.out.symm)))
        clear ho hg hat
        refine hK.out _ _ ((HU6.out).b3.c 1 rfl) (fun hS => ?_)
        clear hK
        try simp only [List.getElem_toArray, List.getElem_cons_zero, List.getElem_cons_succ, Act.put, List.setIfInBounds_toArray, List.set_cons_zero, List.set_cons_succ]
        exact tail q0 da3 dc3 u6 HQ0.out HU6.out HG6.out
      refine AllReadyH.cons rfl (fun K hK => ?_) ?_
      · have zz12 : (Wd).cell? ⟨C3, 12, none⟩ = some (.slice (some ⟨bq, 0, none⟩) dl.length dc2) := HD0.out.b1.c 12 rfl
        go_simp
        refine hK.out _ _ ((HD0.out).b3.c 1 rfl) (fun hS => ?_)
        clear zz12
        clear hK
        try simp only [List.getElem_toArray, List.getElem_cons_zero, List.getElem_cons_succ, Act.put, List.setIfInBounds_toArray, List.set_cons_zero, List.set_cons_succ]
        refine wpAnyH_take (i := 5) (v := .slice (some ⟨bq, 0, none⟩) k dc2) rfl (by kernel_rfl) (by kernel_rfl) (by kernel_rfl) (fun _ _ _ h => h) (Or.inl ⟨by kernel_rfl, ?_⟩) hS ?_
        · intro w' hSw
          obtain g0 := hSw
          first | (go_simp; done) | (go_simp; with_reducible rfl)
        simp only [List.getElem_toArray, List.getElem_cons_zero, List.getElem_cons_succ, Act.put, List.setIfInBounds_toArray, List.set_cons_zero, List.set_cons_succ]
        refine wpAnyH_ready (rs := [0]) (by kernel_rfl) (List.cons_ne_nil _ _) ?_
        refine AllReadyH.cons rfl (fun K hK => ?_) AllReadyH.nil
        go_simp
        obtain ⟨q0, hq0⟩ : ∃ q, q = Wd.heap.size := ⟨_, rfl⟩
        have hu0 := HD0.out.emptyD (World.grownBy_alloc Wd (.cells #[] 44) none) (Nat.le_refl _) (World.alloc_heap_new Wd _)
        have ho0 := And.intro (row_empty Wd 44 2 _ (Nat.le_refl _)) (World.grownBy_alloc Wd (.cells #[] 44) none)
        rw [← hq0] at hu0 ho0
        try rw [← hq0]
        have HU0 := Lib.hid hu0
        have HO := Lib.hid ho0
        have HQ0 := Lib.hid hq0
        clear hq0 hu0 ho0
        refine hK.out _ _ ((HU0.out).b3.c 1 rfl) (fun hS => ?_)
        generalize Wd.alloc (.cells #[] 44) = u0 at *
        clear hK
        try simp only [List.getElem_toArray, List.getElem_cons_zero, List.getElem_cons_succ, Act.put, List.setIfInBounds_toArray, List.set_cons_zero, List.set_cons_succ]
        refine wpAnyH_ready (rs := [6]) (by kernel_rfl) (List.cons_ne_nil _ _) ?_
        refine AllReadyH.cons rfl (fun K hK => ?_) AllReadyH.nil
        refine step_append_srcA (by rfl) _ _ _ (by rfl) q0 44 i0 _ 2 16 Try.underlying31 hi hz0 hz1 hz2 rfl (by decide) _ 0 [] (by rfl) HO.out.1 _ k (rgsV d1) (by rfl) (HP.out.1.kept HO.out.2) (rgsV_one _) (by unfold maxLen; omega) (by omega) (by rw [HQ0.out]; exact HO.out.2.size) ?_
        intro v6 u6 ho hg hat
        rw [Nat.zero_add, List.nil_append, ← HL1.out] at ho
        obtain ⟨da3, dc3, rfl⟩ := own_slice ho
        have HU6 := Lib.hid (HU0.out.growD (own_base ho (by rw [HQ0.out]; exact Nat.le_trans HD0.out.hB HD0.out.k.size)) hg hat)
        have HG6 := Lib.hid (And.intro ho (grown_off HO.out.2 hg (fun b hb => by cases hb; exact Nat.le_of_eq HQ0.out.symm)))
        clear ho hg hat
        refine hK.out _ _ ((HU6.out).b3.c 1 rfl) (fun hS => ?_)
        clear hK
        try simp only [List.getElem_toArray, List.getElem_cons_zero, List.getElem_cons_succ, Act.put, List.setIfInBounds_toArray, List.set_cons_zero, List.set_cons_succ]
        exact tail q0 da3 dc3 u6 HQ0.out HU6.out HG6.out
      exact AllReadyH.nil
    exact AllReadyH.nil
  case tl =>
    intro q0 da3 dc3 u6 hq0 hs hgg
    have HQ0 := Lib.hid hq0
    have HU6 := Lib.hid hs
    have HG6 := Lib.hid hgg
    clear hq0 hs hgg
    have hS := (show u6.cell? ⟨C1, 1, none⟩ = some (.int .i64 (k : Int)) from ((HU6.out).b3.c 1 rfl))
    refine wpAnyH_ready (rs := [13]) (by kernel_rfl) (List.cons_ne_nil _ _) ?_
    refine AllReadyH.cons rfl (fun K hK => ?_) AllReadyH.nil
    refine step_append_srcA (by rfl) _ _ _ (by rfl) q0 44 i0 _ 2 16 Try.underlying31 hi hz0 hz1 hz2 rfl (by decide) _ d1.length (rgsV d1) (by rfl) HG6.out.1 _ (dl.length - (k + 1)) (rgsV d2) (by rfl) (HP.out.2.kept HG6.out.2) (rgsV_one _) (by have := HL1.out; unfold maxLen; omega) (by have := HL1.out; omega) (by rw [HQ0.out]; exact HG6.out.2.size) ?_
    intro v13 u13 ho hg hat
    rw [← rgsV_app, ← HD4.out.1, HD4.out.2] at ho
    obtain ⟨da4, dc4, rfl⟩ := own_slice ho
    have HU13 := Lib.hid (HU6.out.growD (own_base ho (by rw [HQ0.out]; exact Nat.le_trans HD0.out.hB HD0.out.k.size)) hg hat)
    clear ho hg hat
    refine hK.out _ _ ((HU13.out).b3.c 1 rfl) (fun hS => ?_)
    clear hK
    try simp only [List.getElem_toArray, List.getElem_cons_zero, List.getElem_cons_succ, Act.put, List.setIfInBounds_toArray, List.set_cons_zero, List.set_cons_succ]
    refine wpAnyH_take (i := 14) (v := ?_) rfl (by kernel_rfl) (by kernel_rfl) (by kernel_rfl) (fun _ _ _ h => h) (Or.inl ⟨by kernel_rfl, ?_⟩) hS ?_
    rotate_left
    · intro w' hSw
      obtain g0 := hSw
      first | (go_simp; done) | (go_simp; with_reducible rfl)
    simp only [List.getElem_toArray, List.getElem_cons_zero, List.getElem_cons_succ, Act.put, List.setIfInBounds_toArray, List.set_cons_zero, List.set_cons_succ]
    refine wpAnyH_ready (rs := [15]) (by kernel_rfl) (List.cons_ne_nil _ _) ?_
    refine AllReadyH.cons rfl (fun K hK => ?_) AllReadyH.nil
    have zz12 : (u13).cell? ⟨C3, 12, none⟩ = some (.slice (some ⟨bq, 0, none⟩) dl.length dc2) := HU13.out.b1.c 12 rfl
    have f12 := HU13.out.b1.f 12
    have lr := HU13.out.b1.lt
    go_simp
    have k1_12 : Sw w C0 X [(C4, 44, #[.int .i64 x1, .int .i64 x2]), (C3, 53, #[.int .i64 t, .int .i64 m, .int .i64 y, .int .i64 z, .int .i64 p, .int .i64 d, .int .i64 o, .int .i64 g, .int .i64 u, .int .i64 n, .slice sa2 sl.length sc2, .slice ga2 gl.length gc2, .slice da4 d4.length dc4, .slice ua2 us.length uc2, .slice na2 ns.length nc2]), (C2, 53, #[.int .i64 0, .int .i64 0, .int .i64 0, .int .i64 0, .int .i64 0, .int .i64 0, .int .i64 0, .int .i64 0, .int .i64 0, .int .i64 0, .slice none 0 0, .slice none 0 0, .slice none 0 0, .slice none 0 0, .slice none 0 0]), (C1, 59, #[.int .i64 2, .int .i64 (k : Int), .bool true]), (C0, 53, #[.int .i64 t, .int .i64 m, .int .i64 y, .int .i64 z, .int .i64 p, .int .i64 d, .int .i64 o, .int .i64 g, .int .i64 u, .int .i64 n, .slice sa sl.length sc, .slice ga gl.length gc, .slice da dl.length dc, .slice ua ul.length uc, .slice na nl.length nc])] sa2 sc2 sl ga2 gc2 gl da4 dc4 d4 ua2 uc2 us na2 nc2 ns (u13.setCell ⟨C3, 12, none⟩ (.slice da4 d4.length dc4)) := HU13.out.p1 12 (.slice da4 d4.length dc4)
    refine gen_wr (P := fun V => Sw w C0 X [(C4, 44, #[.int .i64 x1, .int .i64 x2]), (C3, 53, #[.int .i64 t, .int .i64 m, .int .i64 y, .int .i64 z, .int .i64 p, .int .i64 d, .int .i64 o, .int .i64 g, .int .i64 u, .int .i64 n, .slice sa2 sl.length sc2, .slice ga2 gl.length gc2, .slice da4 d4.length dc4, .slice ua2 us.length uc2, .slice na2 ns.length nc2]), (C2, 53, #[.int .i64 0, .int .i64 0, .int .i64 0, .int .i64 0, .int .i64 0, .int .i64 0, .int .i64 0, .int .i64 0, .int .i64 0, .int .i64 0, .slice none 0 0, .slice none 0 0, .slice none 0 0, .slice none 0 0, .slice none 0 0]), (C1, 59, #[.int .i64 2, .int .i64 (k : Int), .bool true]), (C0, 53, #[.int .i64 t, .int .i64 m, .int .i64 y, .int .i64 z, .int .i64 p, .int .i64 d, .int .i64 o, .int .i64 g, .int .i64 u, .int .i64 n, .slice sa sl.length sc, .slice ga gl.length gc, .slice da dl.length dc, .slice ua ul.length uc, .slice na nl.length nc])] sa2 sc2 sl ga2 gc2 gl da4 dc4 d4 ua2 uc2 us na2 nc2 ns V) k1_12 (fun w6 hz => ?_)
    clear lr zz12 f12 k1_12
    have H6 := Lib.hid hz
    clear hz HU13
    refine hK.out _ _ ((H6.out).b3.c 1 rfl) (fun hS => ?_)
    clear hK
    try simp only [List.getElem_toArray, List.getElem_cons_zero, List.getElem_cons_succ, Act.put, List.setIfInBounds_toArray, List.set_cons_zero, List.set_cons_succ]
    refine wpAnyH_done (by kernel_rfl) ?_ _
    clear hS
    have n2 : (w6).cell? ⟨C1, 2, none⟩ = some (.bool true) := H6.out.b3.c 2 rfl
    have hl4 := HL4.out
    go_upto_region 25 with fail
    clear n2
    have c11 : (w6).cell? ⟨C3, 11, none⟩ = some (.slice ga2 gl.length gc2) := H6.out.b1.c 11 rfl
    have c12 : (w6).cell? ⟨C3, 12, none⟩ = some (.slice da4 d4.length dc4) := H6.out.b1.c 12 rfl
    have c13 : (w6).cell? ⟨C3, 13, none⟩ = some (.slice ua2 us.length uc2) := H6.out.b1.c 13 rfl
    have c14 : (w6).cell? ⟨C3, 14, none⟩ = some (.slice na2 ns.length nc2) := H6.out.b1.c 14 rfl
    go_cut [131] (fun v wx => ∃ b : Bool, v = .bool b ∧ Sw w C0 X [(C4, 44, #[.int .i64 x1, .int .i64 x2]), (C3, 53, #[.int .i64 t, .int .i64 m, .int .i64 y, .int .i64 z, .int .i64 p, .int .i64 d, .int .i64 o, .int .i64 g, .int .i64 u, .int .i64 n, .slice sa2 sl.length sc2, .slice ga2 gl.length gc2, .slice da4 d4.length dc4, .slice ua2 us.length uc2, .slice na2 ns.length nc2]), (C2, 53, #[.int .i64 0, .int .i64 0, .int .i64 0, .int .i64 0, .int .i64 0, .int .i64 0, .int .i64 0, .int .i64 0, .int .i64 0, .int .i64 0, .slice none 0 0, .slice none 0 0, .slice none 0 0, .slice none 0 0, .slice none 0 0]), (C1, 59, #[.int .i64 2, .int .i64 (k : Int), .bool true]), (C0, 53, #[.int .i64 t, .int .i64 m, .int .i64 y, .int .i64 z, .int .i64 p, .int .i64 d, .int .i64 o, .int .i64 g, .int .i64 u, .int .i64 n, .slice sa sl.length sc, .slice ga gl.length gc, .slice da dl.length dc, .slice ua ul.length uc, .slice na nl.length nc])] sa2 sc2 sl ga2 gc2 gl da4 dc4 d4 ua2 uc2 us na2 nc2 ns wx)
    case first =>
      as_aux_lemma =>
        by_cases q1 : 300 < ns.length
        · have q1i : (300 : Int) < (ns.length : Int) := by omega
          have q1b : decide ((300 : Int) < (ns.length : Int)) = true := decide_eq_true q1i
          clear q1 q1i
          go_wp2_with fail
          go_meet
          exact ⟨_, rfl, H6.out⟩
        · have q1i : ¬ (300 : Int) < (ns.length : Int) := by omega
          have q1b : decide ((300 : Int) < (ns.length : Int)) = false := decide_eq_false q1i
          clear q1 q1i
          by_cases q2 : 60 < d4.length
          · have q2i : (60 : Int) < (d4.length : Int) := by omega
            have q2b : decide ((60 : Int) < (d4.length : Int)) = true := decide_eq_true q2i
            clear q2 q2i
            go_wp2_with fail
            go_meet
            exact ⟨_, rfl, H6.out⟩
          · have q2i : ¬ (60 : Int) < (d4.length : Int) := by omega
            have q2b : decide ((60 : Int) < (d4.length : Int)) = false := decide_eq_false q2i
            clear q2 q2i
            by_cases q3 : 60 < us.length
            · have q3i : (60 : Int) < (us.length : Int) := by omega
              have q3b : decide ((60 : Int) < (us.length : Int)) = true := decide_eq_true q3i
              clear q3 q3i
              go_wp2_with fail
              go_meet
              exact ⟨_, rfl, H6.out⟩
            · have q3i : ¬ (60 : Int) < (us.length : Int) := by omega
              have q3b : decide ((60 : Int) < (us.length : Int)) = false := decide_eq_false q3i
              clear q3 q3i
              go_wp2_with fail
              refine (P7.ok_spec ga2 gc2 gl _ H6.out.l.g.at (by omega)).mono ?_
              rintro e wq ⟨rfl, hg⟩
              go_wp2_with fail
              go_meet
              exact ⟨_, rfl, H6.out.keep hg⟩
    case rest =>
      clear c11 c12 c13 c14
      obtain ⟨bb, rfl, hs⟩ := hcut
      generalize hwc : wc = V7 at *
      clear hwc
      have HT := Lib.hid hs
      clear hs
      cases bb
      · go_upto_region 27 with fail
        have HK := Lib.hid (HT.out.row2 #[.int .i64 t, .int .i64 m, .int .i64 y, .int .i64 z, .int .i64 p, .int .i64 d, .int .i64 o, .int .i64 g, .int .i64 u, .int .i64 n, .slice sa2 sl.length sc2, .slice ga2 gl.length gc2, .slice da4 d4.length dc4, .slice ua2 us.length uc2, .slice na2 ns.length nc2])
        go_wp2_with (first | (refine wpList_load_row rfl 53 _ rfl C3 rfl 53 _ (0, 0) _ HT.out.b1 Try.underlying53 rfl info_w ?_) | (refine wpList_store_row rfl 53 _ _ rfl C2 #[.int .i64 t, .int .i64 m, .int .i64 y, .int .i64 z, .int .i64 p, .int .i64 d, .int .i64 o, .int .i64 g, .int .i64 u, .int .i64 n, .slice sa2 sl.length sc2, .slice ga2 gl.length gc2, .slice da4 d4.length dc4, .slice ua2 us.length uc2, .slice na2 ns.length nc2] rfl rfl 53 _ HT.out.b2 info_w rfl (by simp [Value.oneCell']) ?_))
        generalize (V7.setRow C2 #[.int .i64 t, .int .i64 m, .int .i64 y, .int .i64 z, .int .i64 p, .int .i64 d, .int .i64 o, .int .i64 g, .int .i64 u, .int .i64 n, .slice sa2 sl.length sc2, .slice ga2 gl.length gc2, .slice da4 d4.length dc4, .slice ua2 us.length uc2, .slice na2 ns.length nc2]) = wz at *
        refine bodyPost_ret (v := .tuple #[.agg #[.int .i64 t, .int .i64 m, .int .i64 y, .int .i64 z, .int .i64 p, .int .i64 d, .int .i64 o, .int .i64 g, .int .i64 u, .int .i64 n, .slice sa2 sl.length sc2, .slice ga2 gl.length gc2, .slice da4 d4.length dc4, .slice ua2 us.length uc2, .slice na2 ns.length nc2], .int .i64 (0)]) (results_world Try.results30 _ _ C2 53 _ (0, 0) _ _ rfl rfl HK.out.b2 Try.underlying53 rfl info_w) rfl ?_
        refine ⟨⟨t, m, y, z, p, d, o, g, u, n, sa2, sc2, sl, ga2, gc2, gl, da4, dc4, d4, ua2, uc2, us, na2, nc2, ns⟩, 0, by simp [Wv.v], LwAt.base HK.out.fin.1 (Nat.le_of_eq HCC.out.symm), HK.out.k.grown (World.grownBy.refl _ _) (Nat.le_of_eq HCC.out.symm), ?_⟩
        unfold Wv.le
        dsimp only
        exact ⟨by omega, by omega, by omega, by omega, by omega, hum2, hnm2⟩
      · go_upto_region 26 with fail
        go_wp2_with (refine wpList_load_row rfl 53 _ rfl C0 rfl 53 _ (0, 0) _ HT.out.b4 Try.underlying53 rfl info_w ?_)
        refine (wcopy_S t m y z p d o g u n sa sc sl ga gc gl da dc dl ua uc ul na nc nl V7 _ (HR.out.kept (HT.out.k.grown (World.grownBy.refl _ _) (Nat.le_of_eq HCC.out.symm))) HT.out.l.xl (by omega) (by omega) (by omega) (by omega) (by omega) hum hnm).mono ?_
        rintro e w9 ⟨sa9, sc9, ga9, gc9, da9, dc9, ua9, uc9, us9, na9, nc9, ns9, rfl, hl, hg, hus, hns⟩
        have H9 := Lib.hid (HT.out.anew hl hg)
        have hW9 := HW.out
        rw [← hus, ← hns] at hW9
        have hu9 : us9.length ≤ 60 := by rw [o_len hus]; exact hu
        have hn9 : ns9.length ≤ 300 := by rw [o_len hns]; exact hn
        obtain ⟨_, _, _, _, _, hum9, hnm9⟩ := wd_le hW9
        clear hl hg hus hns hW9 HT
        have HK := Lib.hid (H9.out.row2 #[.int .i64 t, .int .i64 m, .int .i64 y, .int .i64 z, .int .i64 p, .int .i64 d, .int .i64 o, .int .i64 g, .int .i64 u, .int .i64 n, .slice sa9 sl.length sc9, .slice ga9 gl.length gc9, .slice da9 dl.length dc9, .slice ua9 us9.length uc9, .slice na9 ns9.length nc9])
        go_wp2_with (first | (refine wpList_store_row rfl 53 _ _ rfl C2 #[.int .i64 t, .int .i64 m, .int .i64 y, .int .i64 z, .int .i64 p, .int .i64 d, .int .i64 o, .int .i64 g, .int .i64 u, .int .i64 n, .slice sa9 sl.length sc9, .slice ga9 gl.length gc9, .slice da9 dl.length dc9, .slice ua9 us9.length uc9, .slice na9 ns9.length nc9] rfl rfl 53 _ H9.out.b2 info_w rfl (by simp [Value.oneCell']) ?_))
        generalize (w9.setRow C2 #[.int .i64 t, .int .i64 m, .int .i64 y, .int .i64 z, .int .i64 p, .int .i64 d, .int .i64 o, .int .i64 g, .int .i64 u, .int .i64 n, .slice sa9 sl.length sc9, .slice ga9 gl.length gc9, .slice da9 dl.length dc9, .slice ua9 us9.length uc9, .slice na9 ns9.length nc9]) = wz at *
        refine bodyPost_ret (v := .tuple #[.agg #[.int .i64 t, .int .i64 m, .int .i64 y, .int .i64 z, .int .i64 p, .int .i64 d, .int .i64 o, .int .i64 g, .int .i64 u, .int .i64 n, .slice sa9 sl.length sc9, .slice ga9 gl.length gc9, .slice da9 dl.length dc9, .slice ua9 us9.length uc9, .slice na9 ns9.length nc9], .int .i64 (3)]) (results_world Try.results30 _ _ C2 53 _ (0, 0) _ _ rfl rfl HK.out.b2 Try.underlying53 rfl info_w) rfl ?_
        refine ⟨⟨t, m, y, z, p, d, o, g, u, n, sa9, sc9, sl, ga9, gc9, gl, da9, dc9, dl, ua9, uc9, us9, na9, nc9, ns9⟩, 3, by simp [Wv.v], LwAt.base HK.out.fin.1 (Nat.le_of_eq HCC.out.symm), HK.out.k.grown (World.grownBy.refl _ _) (Nat.le_of_eq HCC.out.symm), ?_⟩
        unfold Wv.le
        dsimp only
        exact ⟨by omega, by omega, by omega, by omega, by omega, hum9, hnm9⟩

set_option maxRecDepth 100000 in
set_option maxHeartbeats 8000000 in
theorem do_downF (t m y z p d o g u n : Int) (sa : Option Addr) (sc : Nat) (sl : List Rg) (ga : Option Addr) (gc : Nat) (gl : List Pk) (da : Option Addr) (dc : Nat) (dl : List Rg) (ua : Option Addr) (uc : Nat) (ul : List Nt) (na : Option Addr) (nc : Nat) (nl : List Nt) (k : Nat) (w : World) (X : List Nat) (h : LrAt w sa sc sl ga gc gl da dc dl ua uc ul na nc nl) (hX : ∀ b ∈ X, b < w.heap.size) (hw : wdP t ⟨m, y, z, p, d, o, g⟩ u n sl gl dl (ul.map Nt.o) (nl.map Nt.o)) (hk9 : k < dl.length) :
    Calls Try.prog 30 #[.agg #[.int .i64 t, .int .i64 m, .int .i64 y, .int .i64 z, .int .i64 p, .int .i64 d, .int .i64 o, .int .i64 g, .int .i64 u, .int .i64 n, .slice sa sl.length sc, .slice ga gl.length gc, .slice da dl.length dc, .slice ua ul.length uc, .slice na nl.length nc], .agg #[.int .i64 2, .int .i64 (k : Int), .bool false]] w (DoPost w X) := by
  obtain ⟨i0, hi, hz0, hz1, hz2⟩ := info_of infoRg
  obtain ⟨i1, ki, kz0, kz1, kz2⟩ := info_of infoNt
  obtain ⟨hd, hu, hn, hsl, hgl, hum, hnm⟩ := wd_le hw
  have HR := Lib.hid h
  have HW := Lib.hid hw
  clear hw
  obtain ⟨C0, hC0⟩ : ∃ C, C = w.heap.size := ⟨_, rfl⟩
  obtain ⟨C1, hC1⟩ : ∃ C, C = w.heap.size + 1 := ⟨_, rfl⟩
  obtain ⟨C2, hC2⟩ : ∃ C, C = w.heap.size + 1 + 1 := ⟨_, rfl⟩
  have k := ((((Sw.start (LwAt.nil w w.heap.size X hX) (Nat.le_refl _)).new 53 #[.int .i64 t, .int .i64 m, .int .i64 y, .int .i64 z, .int .i64 p, .int .i64 d, .int .i64 o, .int .i64 g, .int .i64 u, .int .i64 n, .slice sa sl.length sc, .slice ga gl.length gc, .slice da dl.length dc, .slice ua ul.length uc, .slice na nl.length nc]).new 59 #[.int .i64 2, .int .i64 (k : Int), .bool false]).new 53 #[.int .i64 0, .int .i64 0, .int .i64 0, .int .i64 0, .int .i64 0, .int .i64 0, .int .i64 0, .int .i64 0, .int .i64 0, .int .i64 0, .slice none 0 0, .slice none 0 0, .slice none 0 0, .slice none 0 0, .slice none 0 0])
  simp only [World.size_alloc] at k
  rw [← hC2, ← hC1, ← hC0] at k
  have H0 := Lib.hid k
  clear k h hX
  go_enter Try.func30, Try.ntmps30
  go_upto_region 1 with fail
  try simp only [World.size_alloc]
  try rw [← hC2]
  try rw [← hC1]
  try rw [← hC0]
  have HCC := Lib.hid hC0
  clear hC0 hC1 hC2
  generalize (((w.alloc (.cells #[.int .i64 t, .int .i64 m, .int .i64 y, .int .i64 z, .int .i64 p, .int .i64 d, .int .i64 o, .int .i64 g, .int .i64 u, .int .i64 n, .slice sa sl.length sc, .slice ga gl.length gc, .slice da dl.length dc, .slice ua ul.length uc, .slice na nl.length nc] 53)).alloc (.cells #[.int .i64 2, .int .i64 (k : Int), .bool false] 59)).alloc (.cells #[.int .i64 0, .int .i64 0, .int .i64 0, .int .i64 0, .int .i64 0, .int .i64 0, .int .i64 0, .int .i64 0, .int .i64 0, .int .i64 0, .slice none 0 0, .slice none 0 0, .slice none 0 0, .slice none 0 0, .slice none 0 0] 53)) = W0 at *
  go_wp2_with (refine wpList_load_row rfl 53 _ rfl C0 rfl 53 _ (0, 0) _ H0.out.b2 Try.underlying53 rfl info_w ?_)
  refine (wcopy_S t m y z p d o g u n sa sc sl ga gc gl da dc dl ua uc ul na nc nl W0 _ (HR.out.kept (H0.out.k.grown (World.grownBy.refl _ _) (Nat.le_of_eq HCC.out.symm))) H0.out.l.xl (by omega) (by omega) (by omega) (by omega) (by omega) hum hnm).mono ?_
  rintro e w1 ⟨sa2, sc2, ga2, gc2, da2, dc2, ua2, uc2, us, na2, nc2, ns, rfl, hl, hg, hus, hns⟩
  have H1 := Lib.hid (H0.out.anew hl hg)
  have hW2 := HW.out
  rw [← hus, ← hns] at hW2
  have HW2 := Lib.hid hW2
  have hu2 : us.length ≤ 60 := by rw [o_len hus]; exact hu
  have hn2 : ns.length ≤ 300 := by rw [o_len hns]; exact hn
  have HU2 := Lib.hid (o_len hus)
  obtain ⟨_, _, _, _, _, hum2, hnm2⟩ := wd_le hW2
  clear hl hg hus hns hW2 H0
  have H2 := Lib.hid (H1.out.new 53 #[.int .i64 t, .int .i64 m, .int .i64 y, .int .i64 z, .int .i64 p, .int .i64 d, .int .i64 o, .int .i64 g, .int .i64 u, .int .i64 n, .slice sa2 sl.length sc2, .slice ga2 gl.length gc2, .slice da2 dl.length dc2, .slice ua2 us.length uc2, .slice na2 ns.length nc2])
  go_upto_region 3 with fail
  generalize w1.alloc (.cells #[.int .i64 t, .int .i64 m, .int .i64 y, .int .i64 z, .int .i64 p, .int .i64 d, .int .i64 o, .int .i64 g, .int .i64 u, .int .i64 n, .slice sa2 sl.length sc2, .slice ga2 gl.length gc2, .slice da2 dl.length dc2, .slice ua2 us.length uc2, .slice na2 ns.length nc2] 53) = w2 at *
  generalize w1.heap.size = C3 at *
  clear H1
  have kd0 : (w2).cell? ⟨C1, 0, none⟩ = some (.int .i64 2) := H2.out.b2.c 0 rfl
  have hk : k < dl.length := by omega
  rcases own_form H2.out.l.d with ⟨_, _, h0⟩ | ⟨bq, rfl⟩
  · exfalso
    omega
  have hkI : (k : Int) < (dl.length : Int) := by omega
  have hk0 : (0 : Int) ≤ (k : Int) := by omega
  have n1 : (w2).cell? ⟨C1, 1, none⟩ = some (.int .i64 (k : Int)) := H2.out.b2.c 1 rfl
  have c12 : (w2).cell? ⟨C3, 12, none⟩ = some (.slice (some ⟨bq, 0, none⟩) dl.length dc2) := H2.out.b0.c 12 rfl
  have hw1 : IntKind.i64.wrap ((dl.length : Int) - 1) = (dl.length : Int) - 1 := IntWalk.i64_in _ (by omega)
  go_wp2_with fail
  refine (in_any _ _ _ _).mono ?_
  rintro e w' ⟨rfl, rfl⟩
  have hb : inB (k : Int) 0 ((dl.length : Int) - 1) = true := by unfold inB; exact decide_eq_true (by omega)
  rw [hb]
  clear hb hw1
  go_upto_region 10 with fail
  obtain ⟨p0, p1⟩ := x_rg (cells_own H2.out.l.d) hk
  have hdx := HW.out.2.2.2.2.1.1 _ (List.getElem_mem hk)
  generalize dl[k] = xx at *
  obtain ⟨x1, x2⟩ := xx
  dsimp only at p0 p1
  obtain ⟨hx0, hx1, hx2, hx3⟩ := hdx
  dsimp only at hx0 hx1 hx2 hx3
  have HXS := Lib.hid (And.intro hx0 (And.intro hx1 (And.intro hx2 hx3)))
  clear hx0 hx1 hx2 hx3
  have hk9 := H2.out.new 44 #[.int .i64 x1, .int .i64 x2]
  have HB := Lib.hid hk9
  clear hk9
  go_upto_region 11 with fail
  clear n1 c12 p0 p1
  generalize w2.alloc (.cells #[.int .i64 x1, .int .i64 x2] 44) = wb at *
  generalize w2.heap.size = C4 at *
  clear H2
  obtain ⟨hcap, hmx⟩ := cap_own HB.out.l.d
  unfold maxLen at hmx
  have hkc : (k : Int) ≤ (dc2 : Int) := by omega
  have hk1 : (k : Int) ≤ (dl.length : Int) := by omega
  have hq : IntKind.i64.wrap ((k : Int) + 1) = ((k + 1 : Nat) : Int) := by rw [IntWalk.i64_in _ (by omega)]; omega
  have hk3 : ((k + 1 : Nat) : Int) ≤ (dl.length : Int) := by omega
  have hk4 : (0 : Int) ≤ (k : Int) + 1 := by omega
  have hk5 : (k : Int) + 1 ≤ (dl.length : Int) := by omega
  obtain ⟨ad, hAd, hAd2⟩ : ∃ ad : Addr, (if dc2 = k + 1 then some ⟨bq, 0, none⟩ else some ⟨bq, (k + 1) * 2, none⟩ : Option Addr) = some ad ∧ (k + 1 < dl.length → ad = ⟨bq, (k + 1) * 2, none⟩) := by
    by_cases hc : dc2 = k + 1
    · exact ⟨_, if_pos hc, fun h => by omega⟩
    · exact ⟨_, if_neg hc, fun _ => rfl⟩
  have HAd := Lib.hid hAd2
  clear hAd2
  obtain ⟨d1, hd1⟩ : ∃ q, q = dl.take k := ⟨_, rfl⟩
  obtain ⟨d2, hd2⟩ : ∃ q, q = dl.drop (k + 1) := ⟨_, rfl⟩
  obtain ⟨d4, hd4⟩ : ∃ q, q = d1 ++ d2 := ⟨_, rfl⟩
  have HL1 := Lib.hid (show d1.length = k by rw [hd1, List.length_take]; omega)
  have HD4 := Lib.hid (show d4 = d1 ++ d2 ∧ d1.length + (dl.length - (k + 1)) = d4.length from ⟨hd4, by rw [hd4, List.length_append, hd2, List.length_drop]⟩)
  have HL4 := Lib.hid (show d4.length ≤ dl.length by rw [hd4, List.length_append, hd1, hd2, List.length_take, List.length_drop]; omega)
  clear hd4
  refine wp_region_held_drew (S := fun w' => w'.cell? ⟨C1, 1, none⟩ = some (.int .i64 (k : Int))) (by kernel_rfl) (by have hd := HB.out.keep (grownBy_drew (r := none)); exact ((hd).b3.c 1 rfl)) (fun hS => ?_)
  have HD0 := Lib.hid (HB.out.keep (grownBy_drew (r := none)))
  generalize wb.drew = Wd at *
  have hpp := src_partsR (c := dc2) (cells_own HD0.out.l.d) hk HAd.out
  rw [← hd1, ← hd2] at hpp
  have HP := Lib.hid hpp
  clear hpp hd1 hd2
  refine' (fun (tail : ∀ (q0 : Nat) (da3 : Option Addr) (dc3 : Nat) (W : World), q0 = Wd.heap.size → Sw w C0 X [(C4, 44, #[.int .i64 x1, .int .i64 x2]), (C3, 53, #[.int .i64 t, .int .i64 m, .int .i64 y, .int .i64 z, .int .i64 p, .int .i64 d, .int .i64 o, .int .i64 g, .int .i64 u, .int .i64 n, .slice sa2 sl.length sc2, .slice ga2 gl.length gc2, .slice (some ⟨bq, 0, none⟩) dl.length dc2, .slice ua2 us.length uc2, .slice na2 ns.length nc2]), (C2, 53, #[.int .i64 0, .int .i64 0, .int .i64 0, .int .i64 0, .int .i64 0, .int .i64 0, .int .i64 0, .int .i64 0, .int .i64 0, .int .i64 0, .slice none 0 0, .slice none 0 0, .slice none 0 0, .slice none 0 0, .slice none 0 0]), (C1, 59, #[.int .i64 2, .int .i64 (k : Int), .bool false]), (C0, 53, #[.int .i64 t, .int .i64 m, .int .i64 y, .int .i64 z, .int .i64 p, .int .i64 d, .int .i64 o, .int .i64 g, .int .i64 u, .int .i64 n, .slice sa sl.length sc, .slice ga gl.length gc, .slice da dl.length dc, .slice ua ul.length uc, .slice na nl.length nc])] sa2 sc2 sl ga2 gc2 gl da3 dc3 d1 ua2 uc2 us na2 nc2 ns W → W.ownsRow q0 44 2 (.slice da3 d1.length dc3) d1.length (rgsV d1) ∧ Wd.grownBy W none → (_ : Nat → Option Addr → Nat → World → Prop) q0 da3 dc3 W) => ?main) ?tl
  case main =>
    refine wpAnyH_take (i := 1) (v := ?_) rfl (by kernel_rfl) (by kernel_rfl) (by kernel_rfl) (fun _ _ _ h => h) (Or.inl ⟨by kernel_rfl, ?_⟩) hS ?_
    rotate_left
    · intro w' hSw
      obtain g0 := hSw
      first | (go_simp; done) | (go_simp; with_reducible rfl)
    simp only [List.getElem_toArray, List.getElem_cons_zero, List.getElem_cons_succ, Act.put, List.setIfInBounds_toArray, List.set_cons_zero, List.set_cons_succ]
    refine wpAnyH_take (i := 3) (v := ?_) rfl (by kernel_rfl) (by kernel_rfl) (by kernel_rfl) (fun _ _ _ h => h) (Or.inl ⟨by kernel_rfl, ?_⟩) hS ?_
    rotate_left
    · intro w' hSw
      obtain g0 := hSw
      first | (go_simp; done) | (go_simp; with_reducible rfl)
    simp only [List.getElem_toArray, List.getElem_cons_zero, List.getElem_cons_succ, Act.put, List.setIfInBounds_toArray, List.set_cons_zero, List.set_cons_succ]
    refine wpAnyH_take (i := 4) (v := ?_) rfl (by kernel_rfl) (by kernel_rfl) (by kernel_rfl) (fun _ _ _ h => h) (Or.inl ⟨by kernel_rfl, ?_⟩) hS ?_
    rotate_left
    · intro w' hSw
      obtain g0 := hSw
      first | (go_simp; done) | (go_simp; with_reducible rfl)
    simp only [List.getElem_toArray, List.getElem_cons_zero, List.getElem_cons_succ, Act.put, List.setIfInBounds_toArray, List.set_cons_zero, List.set_cons_succ]
    refine wpAnyH_take (i := 7) (v := ?_) rfl (by kernel_rfl) (by kernel_rfl) (by kernel_rfl) (fun _ _ _ h => h) (Or.inl ⟨by kernel_rfl, ?_⟩) hS ?_
    rotate_left
    · intro w' hSw
      obtain g0 := hSw
      first | (go_simp; done) | (go_simp; with_reducible rfl)
    simp only [List.getElem_toArray, List.getElem_cons_zero, List.getElem_cons_succ, Act.put, List.setIfInBounds_toArray, List.set_cons_zero, List.set_cons_succ]
    refine wpAnyH_take (i := 9) (v := ?_) rfl (by kernel_rfl) (by kernel_rfl) (by kernel_rfl) (fun _ _ _ h => h) (Or.inl ⟨by kernel_rfl, ?_⟩) hS ?_
    rotate_left
    · intro w' hSw
      obtain g0 := hSw
      first | (go_simp; done) | (go_simp; with_reducible rfl)
    simp only [List.getElem_toArray, List.getElem_cons_zero, List.getElem_cons_succ, Act.put, List.setIfInBounds_toArray, List.set_cons_zero, List.set_cons_succ]
    refine wpAnyH_take (i := 10) (v := ?_) rfl (by kernel_rfl) (by kernel_rfl) (by kernel_rfl) (fun _ _ _ h => h) (Or.inl ⟨by kernel_rfl, ?_⟩) hS ?_
    rotate_left
    · intro w' hSw
      obtain g0 := hSw
      first | (go_simp; done) | (go_simp; with_reducible rfl)
    simp only [List.getElem_toArray, List.getElem_cons_zero, List.getElem_cons_succ, Act.put, List.setIfInBounds_toArray, List.set_cons_zero, List.set_cons_succ]
    refine wpAnyH_take (i := 11) (v := ?_) rfl (by kernel_rfl) (by kernel_rfl) (by kernel_rfl) (fun _ _ _ h => h) (Or.inl ⟨by kernel_rfl, ?_⟩) hS ?_
    rotate_left
    · intro w' hSw
      obtain g0 := hSw
      first | (go_simp; done) | (go_simp; with_reducible rfl)
    simp only [List.getElem_toArray, List.getElem_cons_zero, List.getElem_cons_succ, Act.put, List.setIfInBounds_toArray, List.set_cons_zero, List.set_cons_succ]
    refine wpAnyH_ready (rs := [0, 2, 8]) (by kernel_rfl) (List.cons_ne_nil _ _) ?_
    refine AllReadyH.cons rfl (fun K hK => ?_) ?_
    · go_simp
      obtain ⟨q0, hq0⟩ : ∃ q, q = Wd.heap.size := ⟨_, rfl⟩
      have hu0 := HD0.out.emptyD (World.grownBy_alloc Wd (.cells #[] 44) none) (Nat.le_refl _) (World.alloc_heap_new Wd _)
      have ho0 := And.intro (row_empty Wd 44 2 _ (Nat.le_refl _)) (World.grownBy_alloc Wd (.cells #[] 44) none)
      rw [← hq0] at hu0 ho0
      try rw [← hq0]
      have HU0 := Lib.hid hu0
      have HO := Lib.hid ho0
      have HQ0 := Lib.hid hq0
      clear hq0 hu0 ho0
      refine hK.out _ _ ((HU0.out).b3.c 1 rfl) (fun hS => ?_)
      generalize Wd.alloc (.cells #[] 44) = u0 at *
      clear hK
      try simp only [List.getElem_toArray, List.getElem_cons_zero, List.getElem_cons_succ, Act.put, List.setIfInBounds_toArray, List.set_cons_zero, List.set_cons_succ]
      refine wpAnyH_ready (rs := [2, 8]) (by kernel_rfl) (List.cons_ne_nil _ _) ?_
      refine AllReadyH.cons rfl (fun K hK => ?_) ?_
      · have zz12 : (u0).cell? ⟨C3, 12, none⟩ = some (.slice (some ⟨bq, 0, none⟩) dl.length dc2) := HU0.out.b1.c 12 rfl
        go_simp
        refine hK.out _ _ ((HU0.out).b3.c 1 rfl) (fun hS => ?_)
        clear zz12
        clear hK
        try simp only [List.getElem_toArray, List.getElem_cons_zero, List.getElem_cons_succ, Act.put, List.setIfInBounds_toArray, List.set_cons_zero, List.set_cons_succ]
        refine wpAnyH_take (i := 5) (v := .slice (some ⟨bq, 0, none⟩) k dc2) rfl (by kernel_rfl) (by kernel_rfl) (by kernel_rfl) (fun _ _ _ h => h) (Or.inl ⟨by kernel_rfl, ?_⟩) hS ?_
        · intro w' hSw
          obtain g0 := hSw
          first | (go_simp; done) | (go_simp; with_reducible rfl)
        simp only [List.getElem_toArray, List.getElem_cons_zero, List.getElem_cons_succ, Act.put, List.setIfInBounds_toArray, List.set_cons_zero, List.set_cons_succ]
        refine wpAnyH_ready (rs := [6, 8]) (by kernel_rfl) (List.cons_ne_nil _ _) ?_
        refine AllReadyH.cons rfl (fun K hK => ?_) ?_
        · refine step_append_srcA (by rfl) _ _ _ (by rfl) q0 44 i0 _ 2 16 Try.underlying31 hi hz0 hz1 hz2 rfl (by decide) _ 0 [] (by rfl) HO.out.1 _ k (rgsV d1) (by rfl) (HP.out.1.kept HO.out.2) (rgsV_one _) (by unfold maxLen; omega) (by omega) (by rw [HQ0.out]; exact HO.out.2.size) ?_
          intro v6 u6 ho hg hat
          rw [Nat.zero_add, List.nil_append, ← HL1.out] at ho
          obtain ⟨da3, dc3, rfl⟩ := own_slice ho
          have HU6 := Lib.hid (HU0.out.growD (own_base ho (by rw [HQ0.out]; exact Nat.le_trans HD0.out.hB HD0.out.k.size)) hg hat)
          have HG6 := Lib.hid (And.intro ho (grown_off HO.out.2 hg (fun b hb => by cases hb; exact Nat.le_of_eq HQ0.out.symm)))
          clear ho hg hat
          refine hK.out _ _ ((HU6.out).b3.c 1 rfl) (fun hS => ?_)
          clear hK
          try simp only [List.getElem_toArray, List.getElem_cons_zero, List.getElem_cons_succ, Act.put, List.setIfInBounds_toArray, List.set_cons_zero, List.set_cons_succ]
          refine wpAnyH_ready (rs := [8]) (by kernel_rfl) (List.cons_ne_nil _ _) ?_
          refine AllReadyH.cons rfl (fun K hK => ?_) AllReadyH.nil
          have zz12 : (u6).cell? ⟨C3, 12, none⟩ = some (.slice (some ⟨bq, 0, none⟩) dl.length dc2) := HU6.out.b1.c 12 rfl
          go_simp
          refine hK.out _ _ ((HU6.out).b3.c 1 rfl) (fun hS => ?_)
          clear zz12
          clear hK
          try simp only [List.getElem_toArray, List.getElem_cons_zero, List.getElem_cons_succ, Act.put, List.setIfInBounds_toArray, List.set_cons_zero, List.set_cons_succ]
          refine wpAnyH_take (i := 12) (v := .slice (some ad) (dl.length - (k + 1)) (dc2 - (k + 1))) rfl (by kernel_rfl) (by kernel_rfl) (by kernel_rfl) (fun _ _ _ h => h) (Or.inl ⟨by kernel_rfl, ?_⟩) hS ?_
          · intro w' hSw
            obtain g0 := hSw
            first | (go_simp; done) | (go_simp; with_reducible rfl)
          simp only [List.getElem_toArray, List.getElem_cons_zero, List.getElem_cons_succ, Act.put, List.setIfInBounds_toArray, List.set_cons_zero, List.set_cons_succ]
          exact tail q0 da3 dc3 u6 HQ0.out HU6.out HG6.out
        refine AllReadyH.cons rfl (fun K hK => ?_) ?_
        · have zz12 : (u0).cell? ⟨C3, 12, none⟩ = some (.slice (some ⟨bq, 0, none⟩) dl.length dc2) := HU0.out.b1.c 12 rfl
          go_simp
          refine hK.out _ _ ((HU0.out).b3.c 1 rfl) (fun hS => ?_)
          clear zz12
          clear hK
          try simp only [List.getElem_toArray, List.getElem_cons_zero, List.getElem_cons_succ, Act.put, List.setIfInBounds_toArray, List.set_cons_zero, List.set_cons_succ]
          refine wpAnyH_take (i := 12) (v := .slice (some ad) (dl.length - (k + 1)) (dc2 - (k + 1))) rfl (by kernel_rfl) (by kernel_rfl) (by kernel_rfl) (fun _ _ _ h => h) (Or.inl ⟨by kernel_rfl, ?_⟩) hS ?_
          · intro w' hSw
            obtain g0 := hSw
            first | (go_simp; done) | (go_simp; with_reducible rfl)
          simp only [List.getElem_toArray, List.getElem_cons_zero, List.getElem_cons_succ, Act.put, List.setIfInBounds_toArray, List.set_cons_zero, List.set_cons_succ]
          refine wpAnyH_ready (rs := [6]) (by kernel_rfl) (List.cons_ne_nil _ _) ?_
          refine AllReadyH.cons rfl (fun K hK => ?_) AllReadyH.nil
          refine step_append_srcA (by rfl) _ _ _ (by rfl) q0 44 i0 _ 2 16 Try.underlying31 hi hz0 hz1 hz2 rfl (by decide) _ 0 [] (by rfl) HO.out.1 _ k (rgsV d1) (by rfl) (HP.out.1.kept HO.out.2) (rgsV_one _) (by unfold maxLen; omega) (by omega) (by rw [HQ0.out]; exact HO.out.2.size) ?_
          intro v6 u6 ho hg hat
          rw [Nat.zero_add, List.nil_append, ← HL1.out] at ho
          obtain ⟨da3, dc3, rfl⟩ := own_slice ho
          have HU6 := Lib.hid (HU0.out.growD (own_base ho (by rw [HQ0.out]; exact Nat.le_trans HD0.out.hB HD0.out.k.size)) hg hat)
          have HG6 := Lib.hid (And.intro ho (grown_off HO.out.2 hg (fun b hb => by cases hb; exact Nat.le_of_eq HQ0.out.symm)))
          clear ho hg hat
          refine hK.out _ _ ((HU6.out).b3.c 1 rfl) (fun hS => ?_)
          clear hK
          try simp only [List.getElem_toArray, List.getElem_cons_zero, List.getElem_cons_succ, Act.put, List.setIfInBounds_toArray, List.set_cons_zero, List.set_cons_succ]
          exact tail q0 da3 dc3 u6 HQ0.out HU6.out HG6.out
        exact AllReadyH.nil
      refine AllReadyH.cons rfl (fun K hK => ?_) ?_
      · have zz12 : (u0).cell? ⟨C3, 12, none⟩ = some (.slice (some ⟨bq, 0, none⟩) dl.length dc2) := HU0.out.b1.c 12 rfl
        go_simp
        refine hK.out _ _ ((HU0.out).b3.c 1 rfl) (fun hS => ?_)
        clear zz12
        clear hK
        try simp only [List.getElem_toArray, List.getElem_cons_zero, List.getElem_cons_succ, Act.put, List.setIfInBounds_toArray, List.set_cons_zero, List.set_cons_succ]
        refine wpAnyH_take (i := 12) (v := .slice (some ad) (dl.length - (k + 1)) (dc2 - (k + 1))) rfl (by kernel_rfl) (by kernel_rfl) (by kernel_rfl) (fun _ _ _ h => h) (Or.inl ⟨by kernel_rfl, ?_⟩) hS ?_
        · intro w' hSw
          obtain g0 := hSw
          first | (go_simp; done) | (go_simp; with_reducible rfl)
        simp only [List.getElem_toArray, List.getElem_cons_zero, List.getElem_cons_succ, Act.put, List.setIfInBounds_toArray, List.set_cons_zero, List.set_cons_succ]
        refine wpAnyH_ready (rs := [2]) (by kernel_rfl) (List.cons_ne_nil _ _) ?_
        refine AllReadyH.cons rfl (fun K hK => ?_) AllReadyH.nil
        have zz12 : (u0).cell? ⟨C3, 12, none⟩ = some (.slice (some ⟨bq, 0, none⟩) dl.length dc2) := HU0.out.b1.c 12 rfl
        go_simp
        refine hK.out _ _ ((HU0.out).b3.c 1 rfl) (fun hS => ?_)
        clear zz12
        clear hK
        try simp only [List.getElem_toArray, List.getElem_cons_zero, List.getElem_cons_succ, Act.put, List.setIfInBounds_toArray, List.set_cons_zero, List.set_cons_succ]
        refine wpAnyH_take (i := 5) (v := .slice (some ⟨bq, 0, none⟩) k dc2) rfl (by kernel_rfl) (by kernel_rfl) (by kernel_rfl) (fun _ _ _ h => h) (Or.inl ⟨by kernel_rfl, ?_⟩) hS ?_
        · intro w' hSw
          obtain g0 := hSw
          first | (go_simp; done) | (go_simp; with_reducible rfl)
        simp only [List.getElem_toArray, List.getElem_cons_zero, List.getElem_cons_succ, Act.put, List.setIfInBounds_toArray, List.set_cons_zero, List.set_cons_succ]
        refine wpAnyH_ready (rs := [6]) (by kernel_rfl) (List.cons_ne_nil _ _) ?_
        refine AllReadyH.cons rfl (fun K hK => ?_) AllReadyH.nil
        refine step_append_srcA (by rfl) _ _ _ (by rfl) q0 44 i0 _ 2 16 Try.underlying31 hi hz0 hz1 hz2 rfl (by decide) _ 0 [] (by rfl) HO.out.1 _ k (rgsV d1) (by rfl) (HP.out.1.kept HO.out.2) (rgsV_one _) (by unfold maxLen; omega) (by omega) (by rw [HQ0.out]; exact HO.out.2.size) ?_
        intro v6 u6 ho hg hat
        rw [Nat.zero_add, List.nil_append, ← HL1.out] at ho
        obtain ⟨da3, dc3, rfl⟩ := own_slice ho
        have HU6 := Lib.hid (HU0.out.growD (own_base ho (by rw [HQ0.out]; exact Nat.le_trans HD0.out.hB HD0.out.k.size)) hg hat)
        have HG6 := Lib.hid (And.intro ho (grown_off HO.out.2 hg (fun b hb => by cases hb; exact Nat.le_of_eq HQ0.out.symm)))
        clear ho hg hat
        refine hK.out _ _ ((HU6.out).b3.c 1 rfl) (fun hS => ?_)
        clear hK
        try simp only [List.getElem_toArray, List.getElem_cons_zero, List.getElem_cons_succ, Act.put, List.setIfInBounds_toArray, List.set_cons_zero, List.set_cons_succ]
        exact tail q0 da3 dc3 u6 HQ0.out HU6.out HG6.out
      exact AllReadyH.nil
    refine AllReadyH.cons rfl (fun K hK => ?_) ?_
    · have zz12 : (Wd).cell? ⟨C3, 12, none⟩ = some (.slice (some ⟨bq, 0, none⟩) dl.length dc2) := HD0.out.b1.c 12 rfl
      go_simp
      refine hK.out _ _ ((HD0.out).b3.c 1 rfl) (fun hS => ?_)
      clear zz12
      clear hK
      try simp only [List.getElem_toArray, List.getElem_cons_zero, List.getElem_cons_succ, Act.put, List.setIfInBounds_toArray, List.set_cons_zero, List.set_cons_succ]
      refine wpAnyH_take (i := 5) (v := .slice (some ⟨bq, 0, none⟩) k dc2) rfl (by kernel_rfl) (by kernel_rfl) (by kernel_rfl) (fun _ _ _ h => h) (Or.inl ⟨by kernel_rfl, ?_⟩) hS ?_
      · intro w' hSw
        obtain g0 := hSw
        first | (go_simp; done) | (go_simp; with_reducible rfl)
      simp only [List.getElem_toArray, List.getElem_cons_zero, List.getElem_cons_succ, Act.put, List.setIfInBounds_toArray, List.set_cons_zero, List.set_cons_succ]
      refine wpAnyH_ready (rs := [0, 8]) (by kernel_rfl) (List.cons_ne_nil _ _) ?_
      refine AllReadyH.cons rfl (fun K hK => ?_) ?_
      · go_simp
        obtain ⟨q0, hq0⟩ : ∃ q, q = Wd.heap.size := ⟨_, rfl⟩
        have hu0 := HD0.out.emptyD (World.grownBy_alloc Wd (.cells #[] 44) none) (Nat.le_refl _) (World.alloc_heap_new Wd _)
        have ho0 := And.intro (row_empty Wd 44 2 _ (Nat.le_refl _)) (World.grownBy_alloc Wd (.cells #[] 44) none)
        rw [← hq0] at hu0 ho0
        try rw [← hq0]
        have HU0 := Lib.hid hu0
        have HO := Lib.hid ho0
        have HQ0 := Lib.hid hq0
        clear hq0 hu0 ho0
        refine hK.out _ _ ((HU0.out).b3.c 1 rfl) (fun hS => ?_)
        generalize Wd.alloc (.cells #[] 44) = u0 at *
        clear hK
        try simp only [List.getElem_toArray, List.getElem_cons_zero, List.getElem_cons_succ, Act.put, List.setIfInBounds_toArray, List.set_cons_zero, List.set_cons_succ]
        refine wpAnyH_ready (rs := [6, 8]) (by kernel_rfl) (List.cons_ne_nil _ _) ?_
        refine AllReadyH.cons rfl (fun K hK => ?_) ?_
        · refine step_append_srcA (by rfl) _ _ _ (by rfl) q0 44 i0 _ 2 16 Try.underlying31 hi hz0 hz1 hz2 rfl (by decide) _ 0 [] (by rfl) HO.out.1 _ k (rgsV d1) (by rfl) (HP.out.1.kept HO.out.2) (rgsV_one _) (by unfold maxLen; omega) (by omega) (by rw [HQ0.out]; exact HO.out.2.size) ?_
          intro v6 u6 ho hg hat
          rw [Nat.zero_add, List.nil_append, ← HL1.out] at ho
          obtain ⟨da3, dc3, rfl⟩ := own_slice ho
          have HU6 := Lib.hid (HU0.out.growD (own_base ho (by rw [HQ0.out]; exact Nat.le_trans HD0.out.hB HD0.out.k.size)) hg hat)
          have HG6 := Lib.hid (And.intro ho (grown_off HO.out.2 hg (fun b hb => by cases hb; exact Nat.le_of_eq HQ0.out.symm)))
          clear ho hg hat
          refine hK.out _ _ ((HU6.out).b3.c 1 rfl) (fun hS => ?_)
          clear hK
          try simp only [List.getElem_toArray, List.getElem_cons_zero, List.getElem_cons_succ, Act.put, List.setIfInBounds_toArray, List.set_cons_zero, List.set_cons_succ]
          refine wpAnyH_ready (rs := [8]) (by kernel_rfl) (List.cons_ne_nil _ _) ?_
          refine AllReadyH.cons rfl (fun K hK => ?_) AllReadyH.nil
          have zz12 : (u6).cell? ⟨C3, 12, none⟩ = some (.slice (some ⟨bq, 0, none⟩) dl.length dc2) := HU6.out.b1.c 12 rfl
          go_simp
          refine hK.out _ _ ((HU6.out).b3.c 1 rfl) (fun hS => ?_)
          clear zz12
          clear hK
          try simp only [List.getElem_toArray, List.getElem_cons_zero, List.getElem_cons_succ, Act.put, List.setIfInBounds_toArray, List.set_cons_zero, List.set_cons_succ]
          refine wpAnyH_take (i := 12) (v := .slice (some ad) (dl.length - (k + 1)) (dc2 - (k + 1))) rfl (by kernel_rfl) (by kernel_rfl) (by kernel_rfl) (fun _ _ _ h => h) (Or.inl ⟨by kernel_rfl, ?_⟩) hS ?_
          · intro w' hSw
            obtain g0 := hSw
            first | (go_simp; done) | (go_simp; with_reducible rfl)
          simp only [List.getElem_toArray, List.getElem_cons_zero, List.getElem_cons_succ, Act.put, List.setIfInBounds_toArray, List.set_cons_zero, List.set_cons_succ]
          exact tail q0 da3 dc3 u6 HQ0.out HU6.out HG6.out
        refine AllReadyH.cons rfl (fun K hK => ?_) ?_
        · have zz12 : (u0).cell? ⟨C3, 12, none⟩ = some (.slice (some ⟨bq, 0, none⟩) dl.length dc2) := HU0.out.b1.c 12 rfl
          go_simp
          refine hK.out _ _ ((HU0.out).b3.c 1 rfl) (fun hS => ?_)
          clear zz12
          clear hK
          try simp only [List.getElem_toArray, List.getElem_cons_zero, List.getElem_cons_succ, Act.put, List.setIfInBounds_toArray, List.set_cons_zero, List.set_cons_succ]
          refine wpAnyH_take (i := 12) (v := .slice (some ad) (dl.length - (k + 1)) (dc2 - (k + 1))) rfl (by kernel_rfl) (by kernel_rfl) (by kernel_rfl) (fun _ _ _ h => h) (Or.inl ⟨by kernel_rfl, ?_⟩) hS ?_
          · intro w' hSw
            obtain g0 := hSw
            first | (go_simp; done) | (go_simp; with_reducible rfl)
          simp only [List.getElem_toArray, List.getElem_cons_zero, List.getElem_cons_succ, Act.put, List.setIfInBounds_toArray, List.set_cons_zero, List.set_cons_succ]
          refine wpAnyH_ready (rs := [6]) (by kernel_rfl) (List.cons_ne_nil _ _) ?_
          refine AllReadyH.cons rfl (fun K hK => ?_) AllReadyH.nil
          refine step_append_srcA (by rfl) _ _ _ (by rfl) q0 44 i0 _ 2 16 Try.underlying31 hi hz0 hz1 hz2 rfl (by decide) _ 0 [] (by rfl) HO.out.1 _ k (rgsV d1) (by rfl) (HP.out.1.kept HO.out.2) (rgsV_one _) (by unfold maxLen; omega) (by omega) (by rw [HQ0.out]; exact HO.out.2.size) ?_
          intro v6 u6 ho hg hat
          rw [Nat.zero_add, List.nil_append, ← HL1.out] at ho
          obtain ⟨da3, dc3, rfl⟩ := own_slice ho
          have HU6 := Lib.hid (HU0.out.growD (own_base ho (by rw [HQ0.out]; exact Nat.le_trans HD0.out.hB HD0.out.k.size)) hg hat)
          have HG6 := Lib.hid (And.intro ho (grown_off HO.out.2 hg (fun b hb => by cases hb; exact Nat.le_of_eq HQ0.out.symm)))
          clear ho hg hat
          refine hK.out _ _ ((HU6.out).b3.c 1 rfl) (fun hS => ?_)
          clear hK
          try simp only [List.getElem_toArray, List.getElem_cons_zero, List.getElem_cons_succ, Act.put, List.setIfInBounds_toArray, List.set_cons_zero, List.set_cons_succ]
          exact tail q0 da3 dc3 u6 HQ0.out HU6.out HG6.out
        exact AllReadyH.nil
      refine AllReadyH.cons rfl (fun K hK => ?_) ?_
      · have zz12 : (Wd).cell? ⟨C3, 12, none⟩ = some (.slice (some ⟨bq, 0, none⟩) dl.length dc2) := HD0.out.b1.c 12 rfl
        go_simp
        refine hK.out _ _ ((HD0.out).b3.c 1 rfl) (fun hS => ?_)
        clear zz12
        clear hK
        try simp only [List.getElem_toArray, List.getElem_cons_zero, List.getElem_cons_succ, Act.put, List.setIfInBounds_toArray, List.set_cons_zero, List.set_cons_succ]
        refine wpAnyH_take (i := 12) (v := .slice (some ad) (dl.length - (k + 1)) (dc2 - (k + 1))) rfl (by kernel_rfl) (by kernel_rfl) (by kernel_rfl) (fun _ _ _ h => h) (Or.inl ⟨by kernel_rfl, ?_⟩) hS ?_
        · intro w' hSw
          obtain g0 := hSw
          first | (go_simp; done) | (go_simp; with_reducible rfl)
        simp only [List.getElem_toArray, List.getElem_cons_zero, List.getElem_cons_succ, Act.put, List.setIfInBounds_toArray, List.set_cons_zero, List.set_cons_succ]
        refine wpAnyH_ready (rs := [0]) (by kernel_rfl) (List.cons_ne_nil _ _) ?_
        refine AllReadyH.cons rfl (fun K hK => ?_) AllReadyH.nil
        go_simp
        obtain ⟨q0, hq0⟩ : ∃ q, q = Wd.heap.size := ⟨_, rfl⟩
        have hu0 := HD0.out.emptyD (World.grownBy_alloc Wd (.cells #[] 44) none) (Nat.le_refl _) (World.alloc_heap_new Wd _)
        have ho0 := And.intro (row_empty Wd 44 2 _ (Nat.le_refl _)) (World.grownBy_alloc Wd (.cells #[] 44) none)
        rw [← hq0] at hu0 ho0
        try rw [← hq0]
        have HU0 := Lib.hid hu0
        have HO := Lib.hid ho0
        have HQ0 := Lib.hid hq0
        clear hq0 hu0 ho0
        refine hK.out _ _ ((HU0.out).b3.c 1 rfl) (fun hS => ?_)
        generalize Wd.alloc (.cells #[] 44) = u0 at *
        clear hK
        try simp only [List.getElem_toArray, List.getElem_cons_zero, List.getElem_cons_succ, Act.put, List.setIfInBounds_toArray, List.set_cons_zero, List.set_cons_succ]
        refine wpAnyH_ready (rs := [6]) (by kernel_rfl) (List.cons_ne_nil _ _) ?_
        refine AllReadyH.cons rfl (fun K hK => ?_) AllReadyH.nil
        refine step_append_srcA (by rfl) _ _ _ (by rfl) q0 44 i0 _ 2 16 Try.underlying31 hi hz0 hz1 hz2 rfl (by decide) _ 0 [] (by rfl) HO.out.1 _ k (rgsV d1) (by rfl) (HP.out.1.kept HO.out.2) (rgsV_one _) (by unfold maxLen; omega) (by omega) (by rw [HQ0.out]; exact HO.out.2.size) ?_
        intro v6 u6 ho hg hat
        rw [Nat.zero_add, List.nil_append, ← HL1.out] at ho
        obtain ⟨da3, dc3, rfl⟩ := own_slice ho
        have HU6 := Lib.hid (HU0.out.growD (own_base ho (by rw [HQ0.out]; exact Nat.le_trans HD0.out.hB HD0.out.k.size)) hg hat)
        have HG6 := Lib.hid (And.intro ho (grown_off HO.out.2 hg (fun b hb => by cases hb; exact Nat.le_of_eq HQ0.out.symm)))
        clear ho hg hat
        refine hK.out _ _ ((HU6.out).b3.c 1 rfl) (fun hS => ?_)
        clear hK
        try simp only [List.getElem_toArray, List.getElem_cons_zero, List.getElem_cons_succ, Act.put, List.setIfInBounds_toArray, List.set_cons_zero, List.set_cons_succ]
        exact tail q0 da3 dc3 u6 HQ0.out HU6.out HG6.out
      exact AllReadyH.nil
    refine AllReadyH.cons rfl (fun K hK => ?_) ?_
    · have zz12 : (Wd).cell? ⟨C3, 12, none⟩ = some (.slice (some ⟨bq, 0, none⟩) dl.length dc2) := HD0.out.b1.c 12 rfl
      go_simp
      refine hK.out _ _ ((HD0.out).b3.c 1 rfl) (fun hS => ?_)
      clear zz12
      clear hK
      try simp only [List.getElem_toArray, List.getElem_cons_zero, List.getElem_cons_succ, Act.put, List.setIfInBounds_toArray, List.set_cons_zero, List.set_cons_succ]
      refine wpAnyH_take (i := 12) (v := .slice (some ad) (dl.length - (k + 1)) (dc2 - (k + 1))) rfl (by kernel_rfl) (by kernel_rfl) (by kernel_rfl) (fun _ _ _ h => h) (Or.inl ⟨by kernel_rfl, ?_⟩) hS ?_
      · intro w' hSw
        obtain g0 := hSw
        first | (go_simp; done) | (go_simp; with_reducible rfl)
      simp only [List.getElem_toArray, List.getElem_cons_zero, List.getElem_cons_succ, Act.put, List.setIfInBounds_toArray, List.set_cons_zero, List.set_cons_succ]
      refine wpAnyH_ready (rs := [0, 2]) (by kernel_rfl) (List.cons_ne_nil _ _) ?_
      refine AllReadyH.cons rfl (fun K hK => ?_) ?_
      · go_simp
        obtain ⟨q0, hq0⟩ : ∃ q, q = Wd.heap.size := ⟨_, rfl⟩
        have hu0 := HD0.out.emptyD (World.grownBy_alloc Wd (.cells #[] 44) none) (Nat.le_refl _) (World.alloc_heap_new Wd _)
        have ho0 := And.intro (row_empty Wd 44 2 _ (Nat.le_refl _)) (World.grownBy_alloc Wd (.cells #[] 44) none)
        rw [← hq0] at hu0 ho0
        try rw [← hq0]
        have HU0 := Lib.hid hu0
        have HO := Lib.hid ho0
        have HQ0 := Lib.hid hq0
        clear hq0 hu0 ho0
        refine hK.out _ _ ((HU0.out).b3.c 1 rfl) (fun hS => ?_)
        generalize Wd.alloc (.cells #[] 44) = u0 at *
        clear hK
        try simp only [List.getElem_toArray, List.getElem_cons_zero, List.getElem_cons_succ, Act.put, List.setIfInBounds_toArray, List.set_cons_zero, List.set_cons_succ]
        refine wpAnyH_ready (rs := [2]) (by kernel_rfl) (List.cons_ne_nil _ _) ?_
        refine AllReadyH.cons rfl (fun K hK => ?_) AllReadyH.nil
        have zz12 : (u0).cell? ⟨C3, 12, none⟩ = some (.slice (some ⟨bq, 0, none⟩) dl.length dc2) := HU0.out.b1.c 12 rfl
        go_simp
        refine hK.out _ _ ((HU0.out).b3.c 1 rfl) (fun hS => ?_)
        clear zz12
        clear hK
        try simp only [List.getElem_toArray, List.getElem_cons_zero, List.getElem_cons_succ, Act.put, List.setIfInBounds_toArray, List.set_cons_zero, List.set_cons_succ]
        refine wpAnyH_take (i := 5) (v := .slice (some ⟨bq, 0, none⟩) k dc2) rfl (by kernel_rfl) (by kernel_rfl) (by kernel_rfl) (fun _ _ _ h => h) (Or.inl ⟨by kernel_rfl, ?_⟩) hS ?_
        · intro w' hSw
          obtain g0 := hSw
          first | (go_simp; done) | (go_simp; with_reducible rfl)
        simp only [List.getElem_toArray, List.getElem_cons_zero, List.getElem_cons_succ, Act.put, List.setIfInBounds_toArray, List.set_cons_zero, List.set_cons_succ]
        refine wpAnyH_ready (rs := [6]) (by kernel_rfl) (List.cons_ne_nil _ _) ?_
        refine AllReadyH.cons rfl (fun K hK => ?_) AllReadyH.nil
        refine step_append_srcA (by rfl) _ _ _ (by rfl) q0 44 i0 _ 2 16 Try.underlying31 hi hz0 hz1 hz2 rfl (by decide) _ 0 [] (by rfl) HO.out.1 _ k (rgsV d1) (by rfl) (HP.out.1.kept HO.out.2) (rgsV_one _) (by unfold maxLen; omega) (by omega) (by rw [HQ0.out]; exact HO.out.2.size) ?_
        intro v6 u6 ho hg hat
        rw [Nat.zero_add, List.nil_append, ← HL1.out] at ho
        obtain ⟨da3, dc3, rfl⟩ := own_slice ho
        have HU6 := Lib.hid (HU0.out.growD (own_base ho (by rw [HQ0.out]; exact Nat.le_trans HD0.out.hB HD0.out.k.size)) hg hat)
        have HG6 := Lib.hid (And.intro ho (grown_off HO.out.2 hg (fun b hb => by cases hb; exact Nat.le_of_eq HQ0.out.symm)))
        clear ho hg hat
        refine hK.out _ _ ((HU6.out).b3.c 1 rfl) (fun hS => ?_)
        clear hK
        try simp only [List.getElem_toArray, List.getElem_cons_zero, List.getElem_cons_succ, Act.put, List.setIfInBounds_toArray, List.set_cons_zero, List.set_cons_succ]
        exact tail q0 da3 dc3 u6 HQ0.out HU6.out HG6.out
      refine AllReadyH.cons rfl (fun K hK => ?_) ?_
      · have zz12 : (Wd).cell? ⟨C3, 12, none⟩ = some (.slice (some ⟨bq, 0, none⟩) dl.length dc2) := HD0.out.b1.c 12 rfl
        go_simp
        refine hK.out _ _ ((HD0.out).b3.c 1 rfl) (fun hS => ?_)
        clear zz12
        clear hK
        try simp only [List.getElem_toArray, List.getElem_cons_zero, List.getElem_cons_succ, Act.put, List.setIfInBounds_toArray, List.set_cons_zero, List.set_cons_succ]
        refine wpAnyH_take (i := 5) (v := .slice (some ⟨bq, 0, none⟩) k dc2) rfl (by kernel_rfl) (by kernel_rfl) (by kernel_rfl) (fun _ _ _ h => h) (Or.inl ⟨by kernel_rfl, ?_⟩) hS ?_
        · intro w' hSw
          obtain g0 := hSw
          first | (go_simp; done) | (go_simp; with_reducible rfl)
        simp only [List.getElem_toArray, List.getElem_cons_zero, List.getElem_cons_succ, Act.put, List.setIfInBounds_toArray, List.set_cons_zero, List.set_cons_succ]
        refine wpAnyH_ready (rs := [0]) (by kernel_rfl) (List.cons_ne_nil _ _) ?_
        refine AllReadyH.cons rfl (fun K hK => ?_) AllReadyH.nil
        go_simp
        obtain ⟨q0, hq0⟩ : ∃ q, q = Wd.heap.size := ⟨_, rfl⟩
        have hu0 := HD0.out.emptyD (World.grownBy_alloc Wd (.cells #[] 44) none) (Nat.le_refl _) (World.alloc_heap_new Wd _)
        have ho0 := And.intro (row_empty Wd 44 2 _ (Nat.le_refl _)) (World.grownBy_alloc Wd (.cells #[] 44) none)
        rw [← hq0] at hu0 ho0
        try rw [← hq0]
        have HU0 := Lib.hid hu0
        have HO := Lib.hid ho0
        have HQ0 := Lib.hid hq0
        clear hq0 hu0 ho0
        refine hK.out _ _ ((HU0.out).b3.c 1 rfl) (fun hS => ?_)
        generalize Wd.alloc (.cells #[] 44) = u0 at *
        clear hK
        try simp only [List.getElem_toArray, List.getElem_cons_zero, List.getElem_cons_succ, Act.put, List.setIfInBounds_toArray, List.set_cons_zero, List.set_cons_succ]
        refine wpAnyH_ready (rs := [6]) (by kernel_rfl) (List.cons_ne_nil _ _) ?_
        refine AllReadyH.cons rfl (fun K hK => ?_) AllReadyH.nil
        refine step_append_srcA (by rfl) _ _ _ (by rfl) q0 44 i0 _ 2 16 Try.underlying31 hi hz0 hz1 hz2 rfl (by decide) _ 0 [] (by rfl) HO.out.1 _ k (rgsV d1) (by rfl) (HP.out.1.kept HO.out.2) (rgsV_one _) (by unfold maxLen; omega) (by omega) (by rw [HQ0.out]; exact HO.out.2.size) ?_
        intro v6 u6 ho hg hat
        rw [Nat.zero_add, List.nil_append, ← HL1.out] at ho
        obtain ⟨da3, dc3, rfl⟩ := own_slice ho
        have HU6 := Lib.hid (HU0.out.growD (own_base ho (by rw [HQ0.out]; exact Nat.le_trans HD0.out.hB HD0.out.k.size)) hg hat)
        have HG6 := Lib.hid (And.intro ho (grown_off HO.out.2 hg (fun b hb => by cases hb; exact Nat.le_of_eq HQ0.out.symm)))
        clear ho hg hat
        refine hK.out _ _ ((HU6.out).b3.c 1 rfl) (fun hS => ?_)
        clear hK
        try simp only [List.getElem_toArray, List.getElem_cons_zero, List.getElem_cons_succ, Act.put, List.setIfInBounds_toArray, List.set_cons_zero, List.set_cons_succ]
        exact tail q0 da3 dc3 u6 HQ0.out HU6.out HG6.out
      exact AllReadyH.nil
    exact AllReadyH.nil
  case tl =>
    intro q0 da3 dc3 u6 hq0 hs hgg
    have HQ0 := Lib.hid hq0
    have HU6 := Lib.hid hs
    have HG6 := Lib.hid hgg
    clear hq0 hs hgg
    have hS := (show u6.cell? ⟨C1, 1, none⟩ = some (.int .i64 (k : Int)) from ((HU6.out).b3.c 1 rfl))
    refine wpAnyH_ready (rs := [13]) (by kernel_rfl) (List.cons_ne_nil _ _) ?_
    refine AllReadyH.cons rfl (fun K hK => ?_) AllReadyH.nil
    refine step_append_srcA (by rfl) _ _ _ (by rfl) q0 44 i0 _ 2 16 Try.underlying31 hi hz0 hz1 hz2 rfl (by decide) _ d1.length (rgsV d1) (by rfl) HG6.out.1 _ (dl.length - (k + 1)) (rgsV d2) (by rfl) (HP.out.2.kept HG6.out.2) (rgsV_one _) (by have := HL1.out; unfold maxLen; omega) (by have := HL1.out; omega) (by rw [HQ0.out]; exact HG6.out.2.size) ?_
    intro v13 u13 ho hg hat
    rw [← rgsV_app, ← HD4.out.1, HD4.out.2] at ho
    obtain ⟨da4, dc4, rfl⟩ := own_slice ho
    have HU13 := Lib.hid (HU6.out.growD (own_base ho (by rw [HQ0.out]; exact Nat.le_trans HD0.out.hB HD0.out.k.size)) hg hat)
    clear ho hg hat
    refine hK.out _ _ ((HU13.out).b3.c 1 rfl) (fun hS => ?_)
    clear hK
    try simp only [List.getElem_toArray, List.getElem_cons_zero, List.getElem_cons_succ, Act.put, List.setIfInBounds_toArray, List.set_cons_zero, List.set_cons_succ]
    refine wpAnyH_take (i := 14) (v := ?_) rfl (by kernel_rfl) (by kernel_rfl) (by kernel_rfl) (fun _ _ _ h => h) (Or.inl ⟨by kernel_rfl, ?_⟩) hS ?_
    rotate_left
    · intro w' hSw
      obtain g0 := hSw
      first | (go_simp; done) | (go_simp; with_reducible rfl)
    simp only [List.getElem_toArray, List.getElem_cons_zero, List.getElem_cons_succ, Act.put, List.setIfInBounds_toArray, List.set_cons_zero, List.set_cons_succ]
    refine wpAnyH_ready (rs := [15]) (by kernel_rfl) (List.cons_ne_nil _ _) ?_
    refine AllReadyH.cons rfl (fun K hK => ?_) AllReadyH.nil
    have zz12 : (u13).cell? ⟨C3, 12, none⟩ = some (.slice (some ⟨bq, 0, none⟩) dl.length dc2) := HU13.out.b1.c 12 rfl
    have f12 := HU13.out.b1.f 12
    have lr := HU13.out.b1.lt
    go_simp
    have k2_12 : Sw w C0 X [(C4, 44, #[.int .i64 x1, .int .i64 x2]), (C3, 53, #[.int .i64 t, .int .i64 m, .int .i64 y, .int .i64 z, .int .i64 p, .int .i64 d, .int .i64 o, .int .i64 g, .int .i64 u, .int .i64 n, .slice sa2 sl.length sc2, .slice ga2 gl.length gc2, .slice da4 d4.length dc4, .slice ua2 us.length uc2, .slice na2 ns.length nc2]), (C2, 53, #[.int .i64 0, .int .i64 0, .int .i64 0, .int .i64 0, .int .i64 0, .int .i64 0, .int .i64 0, .int .i64 0, .int .i64 0, .int .i64 0, .slice none 0 0, .slice none 0 0, .slice none 0 0, .slice none 0 0, .slice none 0 0]), (C1, 59, #[.int .i64 2, .int .i64 (k : Int), .bool false]), (C0, 53, #[.int .i64 t, .int .i64 m, .int .i64 y, .int .i64 z, .int .i64 p, .int .i64 d, .int .i64 o, .int .i64 g, .int .i64 u, .int .i64 n, .slice sa sl.length sc, .slice ga gl.length gc, .slice da dl.length dc, .slice ua ul.length uc, .slice na nl.length nc])] sa2 sc2 sl ga2 gc2 gl da4 dc4 d4 ua2 uc2 us na2 nc2 ns (u13.setCell ⟨C3, 12, none⟩ (.slice da4 d4.length dc4)) := HU13.out.p1 12 (.slice da4 d4.length dc4)
    refine gen_wr (P := fun V => Sw w C0 X [(C4, 44, #[.int .i64 x1, .int .i64 x2]), (C3, 53, #[.int .i64 t, .int .i64 m, .int .i64 y, .int .i64 z, .int .i64 p, .int .i64 d, .int .i64 o, .int .i64 g, .int .i64 u, .int .i64 n, .slice sa2 sl.length sc2, .slice ga2 gl.length gc2, .slice da4 d4.length dc4, .slice ua2 us.length uc2, .slice na2 ns.length nc2]), (C2, 53, #[.int .i64 0, .int .i64 0, .int .i64 0, .int .i64 0, .int .i64 0, .int .i64 0, .int .i64 0, .int .i64 0, .int .i64 0, .int .i64 0, .slice none 0 0, .slice none 0 0, .slice none 0 0, .slice none 0 0, .slice none 0 0]), (C1, 59, #[.int .i64 2, .int .i64 (k : Int), .bool false]), (C0, 53, #[.int .i64 t, .int .i64 m, .int .i64 y, .int .i64 z, .int .i64 p, .int .i64 d, .int .i64 o, .int .i64 g, .int .i64 u, .int .i64 n, .slice sa sl.length sc, .slice ga gl.length gc, .slice da dl.length dc, .slice ua ul.length uc, .slice na nl.length nc])] sa2 sc2 sl ga2 gc2 gl da4 dc4 d4 ua2 uc2 us na2 nc2 ns V) k2_12 (fun w6 hz => ?_)
    clear lr zz12 f12 k2_12
    have H6 := Lib.hid hz
    clear hz HU13
    refine hK.out _ _ ((H6.out).b3.c 1 rfl) (fun hS => ?_)
    clear hK
    try simp only [List.getElem_toArray, List.getElem_cons_zero, List.getElem_cons_succ, Act.put, List.setIfInBounds_toArray, List.set_cons_zero, List.set_cons_succ]
    refine wpAnyH_done (by kernel_rfl) ?_ _
    clear hS
    have n2 : (w6).cell? ⟨C1, 2, none⟩ = some (.bool false) := H6.out.b3.c 2 rfl
    have hl4 := HL4.out
    go_upto_region 13 with fail
    clear n2
    have hxs := HXS.out
    have hnt := HW.out.2.2.1.2
    have ht3 := HW.out.1.2
    have hm2 := HW.out.2.1.2
    dsimp only at hm2
    have hx9 : 0 ≤ x1 ∧ x1 < x2 ∧ x2 ≤ 3000 ∧ x2 - x1 ≤ 200 := by omega
    have hpc := HW.out.2.2.2.1.1
    have HX9 := Lib.hid (And.intro hpc hx9)
    clear hxs hnt ht3 hm2 hx9 hpc
    have ex0 : (w6).cell? ⟨C4, 0, none⟩ = some (.int .i64 x1) := H6.out.b0.c 0 rfl
    have ex1 : (w6).cell? ⟨C4, 1, none⟩ = some (.int .i64 x2) := H6.out.b0.c 1 rfl
    go_wp2_with (refine wpList_load_row rfl 53 _ rfl C3 rfl 53 _ (0, 0) _ H6.out.b1 Try.underlying53 rfl info_w ?_)
    refine (down_S t m y z p d o g u n sa2 sc2 sl ga2 gc2 gl da4 dc4 d4 ua2 uc2 us na2 nc2 ns x1 x2 w6 C0 (C4 :: C3 :: C2 :: C1 :: C0 :: X) H6.out.l (Nat.le_trans (Nat.le_of_eq HCC.out) H6.out.k.size) (by omega) (by omega) (by omega) (by omega) (by omega) hum2 hnm2 HX9.out.1 HX9.out.2.1 HX9.out.2.2.1 HX9.out.2.2.2.1 HX9.out.2.2.2.2).mono ?_
    rintro e w3 ⟨⟨t3, m3, y3, z3, p3, d3, o3, g3, u3, n3, sa3, sc3, sl3, ga3, gc3, gl3, da3, dc3, dl3, ua3, uc3, ul3, na3, nc3, nl3⟩, rfl, ha, hk, hle⟩
    have H3 := Lib.hid (H6.out.call ha hk)
    have HLE := Lib.hid hle
    clear ha hk hle
    dsimp only [Wv.v]
    dsimp only [Wv.le] at HLE
    clear ex0 ex1
    have H4 := Lib.hid (H3.out.row1 #[.int .i64 t3, .int .i64 m3, .int .i64 y3, .int .i64 z3, .int .i64 p3, .int .i64 d3, .int .i64 o3, .int .i64 g3, .int .i64 u3, .int .i64 n3, .slice sa3 sl3.length sc3, .slice ga3 gl3.length gc3, .slice da3 dl3.length dc3, .slice ua3 ul3.length uc3, .slice na3 nl3.length nc3])
    go_upto_region 25 with (refine wpList_store_row rfl 53 _ _ rfl C3 #[.int .i64 t3, .int .i64 m3, .int .i64 y3, .int .i64 z3, .int .i64 p3, .int .i64 d3, .int .i64 o3, .int .i64 g3, .int .i64 u3, .int .i64 n3, .slice sa3 sl3.length sc3, .slice ga3 gl3.length gc3, .slice da3 dl3.length dc3, .slice ua3 ul3.length uc3, .slice na3 nl3.length nc3] rfl rfl 53 _ H3.out.b1 info_w rfl (by simp [Value.oneCell']) ?_)
    generalize (w3.setRow C3 #[.int .i64 t3, .int .i64 m3, .int .i64 y3, .int .i64 z3, .int .i64 p3, .int .i64 d3, .int .i64 o3, .int .i64 g3, .int .i64 u3, .int .i64 n3, .slice sa3 sl3.length sc3, .slice ga3 gl3.length gc3, .slice da3 dl3.length dc3, .slice ua3 ul3.length uc3, .slice na3 nl3.length nc3]) = w4 at *
    try simp only [Act.put]
    clear H3
    obtain ⟨le1, le2, le3, le4, le5, le6, le7⟩ := HLE.out
    have c11 : (w4).cell? ⟨C3, 11, none⟩ = some (.slice ga3 gl3.length gc3) := H4.out.b1.c 11 rfl
    have c12 : (w4).cell? ⟨C3, 12, none⟩ = some (.slice da3 dl3.length dc3) := H4.out.b1.c 12 rfl
    have c13 : (w4).cell? ⟨C3, 13, none⟩ = some (.slice ua3 ul3.length uc3) := H4.out.b1.c 13 rfl
    have c14 : (w4).cell? ⟨C3, 14, none⟩ = some (.slice na3 nl3.length nc3) := H4.out.b1.c 14 rfl
    go_cut [131] (fun v wx => ∃ b : Bool, v = .bool b ∧ Sw w C0 X [(C4, 44, #[.int .i64 x1, .int .i64 x2]), (C3, 53, #[.int .i64 t3, .int .i64 m3, .int .i64 y3, .int .i64 z3, .int .i64 p3, .int .i64 d3, .int .i64 o3, .int .i64 g3, .int .i64 u3, .int .i64 n3, .slice sa3 sl3.length sc3, .slice ga3 gl3.length gc3, .slice da3 dl3.length dc3, .slice ua3 ul3.length uc3, .slice na3 nl3.length nc3]), (C2, 53, #[.int .i64 0, .int .i64 0, .int .i64 0, .int .i64 0, .int .i64 0, .int .i64 0, .int .i64 0, .int .i64 0, .int .i64 0, .int .i64 0, .slice none 0 0, .slice none 0 0, .slice none 0 0, .slice none 0 0, .slice none 0 0]), (C1, 59, #[.int .i64 2, .int .i64 (k : Int), .bool false]), (C0, 53, #[.int .i64 t, .int .i64 m, .int .i64 y, .int .i64 z, .int .i64 p, .int .i64 d, .int .i64 o, .int .i64 g, .int .i64 u, .int .i64 n, .slice sa sl.length sc, .slice ga gl.length gc, .slice da dl.length dc, .slice ua ul.length uc, .slice na nl.length nc])] sa3 sc3 sl3 ga3 gc3 gl3 da3 dc3 dl3 ua3 uc3 ul3 na3 nc3 nl3 wx)
    case first =>
      as_aux_lemma =>
        by_cases q1 : 300 < nl3.length
        · have q1i : (300 : Int) < (nl3.length : Int) := by omega
          have q1b : decide ((300 : Int) < (nl3.length : Int)) = true := decide_eq_true q1i
          clear q1 q1i
          go_wp2_with fail
          go_meet
          exact ⟨_, rfl, H4.out⟩
        · have q1i : ¬ (300 : Int) < (nl3.length : Int) := by omega
          have q1b : decide ((300 : Int) < (nl3.length : Int)) = false := decide_eq_false q1i
          clear q1 q1i
          by_cases q2 : 60 < dl3.length
          · have q2i : (60 : Int) < (dl3.length : Int) := by omega
            have q2b : decide ((60 : Int) < (dl3.length : Int)) = true := decide_eq_true q2i
            clear q2 q2i
            go_wp2_with fail
            go_meet
            exact ⟨_, rfl, H4.out⟩
          · have q2i : ¬ (60 : Int) < (dl3.length : Int) := by omega
            have q2b : decide ((60 : Int) < (dl3.length : Int)) = false := decide_eq_false q2i
            clear q2 q2i
            by_cases q3 : 60 < ul3.length
            · have q3i : (60 : Int) < (ul3.length : Int) := by omega
              have q3b : decide ((60 : Int) < (ul3.length : Int)) = true := decide_eq_true q3i
              clear q3 q3i
              go_wp2_with fail
              go_meet
              exact ⟨_, rfl, H4.out⟩
            · have q3i : ¬ (60 : Int) < (ul3.length : Int) := by omega
              have q3b : decide ((60 : Int) < (ul3.length : Int)) = false := decide_eq_false q3i
              clear q3 q3i
              go_wp2_with fail
              refine (P7.ok_spec ga3 gc3 gl3 _ H4.out.l.g.at (by omega)).mono ?_
              rintro e wq ⟨rfl, hg⟩
              go_wp2_with fail
              go_meet
              exact ⟨_, rfl, H4.out.keep hg⟩
    case rest =>
      clear c11 c12 c13 c14
      obtain ⟨bb, rfl, hs⟩ := hcut
      generalize hwc : wc = V7 at *
      clear hwc
      have HT := Lib.hid hs
      clear hs
      cases bb
      · go_upto_region 27 with fail
        have HK := Lib.hid (HT.out.row2 #[.int .i64 t3, .int .i64 m3, .int .i64 y3, .int .i64 z3, .int .i64 p3, .int .i64 d3, .int .i64 o3, .int .i64 g3, .int .i64 u3, .int .i64 n3, .slice sa3 sl3.length sc3, .slice ga3 gl3.length gc3, .slice da3 dl3.length dc3, .slice ua3 ul3.length uc3, .slice na3 nl3.length nc3])
        go_wp2_with (first | (refine wpList_load_row rfl 53 _ rfl C3 rfl 53 _ (0, 0) _ HT.out.b1 Try.underlying53 rfl info_w ?_) | (refine wpList_store_row rfl 53 _ _ rfl C2 #[.int .i64 t3, .int .i64 m3, .int .i64 y3, .int .i64 z3, .int .i64 p3, .int .i64 d3, .int .i64 o3, .int .i64 g3, .int .i64 u3, .int .i64 n3, .slice sa3 sl3.length sc3, .slice ga3 gl3.length gc3, .slice da3 dl3.length dc3, .slice ua3 ul3.length uc3, .slice na3 nl3.length nc3] rfl rfl 53 _ HT.out.b2 info_w rfl (by simp [Value.oneCell']) ?_))
        generalize (V7.setRow C2 #[.int .i64 t3, .int .i64 m3, .int .i64 y3, .int .i64 z3, .int .i64 p3, .int .i64 d3, .int .i64 o3, .int .i64 g3, .int .i64 u3, .int .i64 n3, .slice sa3 sl3.length sc3, .slice ga3 gl3.length gc3, .slice da3 dl3.length dc3, .slice ua3 ul3.length uc3, .slice na3 nl3.length nc3]) = wz at *
        refine bodyPost_ret (v := .tuple #[.agg #[.int .i64 t3, .int .i64 m3, .int .i64 y3, .int .i64 z3, .int .i64 p3, .int .i64 d3, .int .i64 o3, .int .i64 g3, .int .i64 u3, .int .i64 n3, .slice sa3 sl3.length sc3, .slice ga3 gl3.length gc3, .slice da3 dl3.length dc3, .slice ua3 ul3.length uc3, .slice na3 nl3.length nc3], .int .i64 (0)]) (results_world Try.results30 _ _ C2 53 _ (0, 0) _ _ rfl rfl HK.out.b2 Try.underlying53 rfl info_w) rfl ?_
        refine ⟨⟨t3, m3, y3, z3, p3, d3, o3, g3, u3, n3, sa3, sc3, sl3, ga3, gc3, gl3, da3, dc3, dl3, ua3, uc3, ul3, na3, nc3, nl3⟩, 0, by simp [Wv.v], LwAt.base HK.out.fin.1 (Nat.le_of_eq HCC.out.symm), HK.out.k.grown (World.grownBy.refl _ _) (Nat.le_of_eq HCC.out.symm), ?_⟩
        unfold Wv.le
        dsimp only
        exact ⟨by omega, by omega, by omega, by omega, by omega, le6, le7⟩
      · go_upto_region 26 with fail
        go_wp2_with (refine wpList_load_row rfl 53 _ rfl C0 rfl 53 _ (0, 0) _ HT.out.b4 Try.underlying53 rfl info_w ?_)
        refine (wcopy_S t m y z p d o g u n sa sc sl ga gc gl da dc dl ua uc ul na nc nl V7 _ (HR.out.kept (HT.out.k.grown (World.grownBy.refl _ _) (Nat.le_of_eq HCC.out.symm))) HT.out.l.xl (by omega) (by omega) (by omega) (by omega) (by omega) hum hnm).mono ?_
        rintro e w9 ⟨sa9, sc9, ga9, gc9, da9, dc9, ua9, uc9, us9, na9, nc9, ns9, rfl, hl, hg, hus, hns⟩
        have H9 := Lib.hid (HT.out.anew hl hg)
        have hW9 := HW.out
        rw [← hus, ← hns] at hW9
        have hu9 : us9.length ≤ 60 := by rw [o_len hus]; exact hu
        have hn9 : ns9.length ≤ 300 := by rw [o_len hns]; exact hn
        obtain ⟨_, _, _, _, _, hum9, hnm9⟩ := wd_le hW9
        clear hl hg hus hns hW9 HT
        have HK := Lib.hid (H9.out.row2 #[.int .i64 t, .int .i64 m, .int .i64 y, .int .i64 z, .int .i64 p, .int .i64 d, .int .i64 o, .int .i64 g, .int .i64 u, .int .i64 n, .slice sa9 sl.length sc9, .slice ga9 gl.length gc9, .slice da9 dl.length dc9, .slice ua9 us9.length uc9, .slice na9 ns9.length nc9])
        go_wp2_with (first | (refine wpList_store_row rfl 53 _ _ rfl C2 #[.int .i64 t, .int .i64 m, .int .i64 y, .int .i64 z, .int .i64 p, .int .i64 d, .int .i64 o, .int .i64 g, .int .i64 u, .int .i64 n, .slice sa9 sl.length sc9, .slice ga9 gl.length gc9, .slice da9 dl.length dc9, .slice ua9 us9.length uc9, .slice na9 ns9.length nc9] rfl rfl 53 _ H9.out.b2 info_w rfl (by simp [Value.oneCell']) ?_))
        generalize (w9.setRow C2 #[.int .i64 t, .int .i64 m, .int .i64 y, .int .i64 z, .int .i64 p, .int .i64 d, .int .i64 o, .int .i64 g, .int .i64 u, .int .i64 n, .slice sa9 sl.length sc9, .slice ga9 gl.length gc9, .slice da9 dl.length dc9, .slice ua9 us9.length uc9, .slice na9 ns9.length nc9]) = wz at *
        refine bodyPost_ret (v := .tuple #[.agg #[.int .i64 t, .int .i64 m, .int .i64 y, .int .i64 z, .int .i64 p, .int .i64 d, .int .i64 o, .int .i64 g, .int .i64 u, .int .i64 n, .slice sa9 sl.length sc9, .slice ga9 gl.length gc9, .slice da9 dl.length dc9, .slice ua9 us9.length uc9, .slice na9 ns9.length nc9], .int .i64 (3)]) (results_world Try.results30 _ _ C2 53 _ (0, 0) _ _ rfl rfl HK.out.b2 Try.underlying53 rfl info_w) rfl ?_
        refine ⟨⟨t, m, y, z, p, d, o, g, u, n, sa9, sc9, sl, ga9, gc9, gl, da9, dc9, dl, ua9, uc9, us9, na9, nc9, ns9⟩, 3, by simp [Wv.v], LwAt.base HK.out.fin.1 (Nat.le_of_eq HCC.out.symm), HK.out.k.grown (World.grownBy.refl _ _) (Nat.le_of_eq HCC.out.symm), ?_⟩
        unfold Wv.le
        dsimp only
        exact ⟨by omega, by omega, by omega, by omega, by omega, hum9, hnm9⟩

end Go.Proofs.Ytedhemllgpbheaa

