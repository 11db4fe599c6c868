/- Ve -/
import Derived.Test.YtedhemllgpbheaaQ34
namespace Go.Proofs.Ytedhemllgpbheaa
open Go.RowKit
open P7 (Pk PkAt pksV PcsP prefL)

set_option maxRecDepth 100000 in
set_option maxHeartbeats 8000000 in
theorem do_send (t m y z p d o g u n : Int) (sa : Option Addr) (sc : Nat) (sl : List Rg) (ga : Option Addr) (gc : Nat) (gl : List Pk) (da : Option Addr) (dc : Nat) (dl : List Rg) (ua : Option Addr) (uc : Nat) (ul : List Nt) (na : Option Addr) (nc : Nat) (nl : List Nt) (sat : Int) (sd : Bool) (w : World) (X : List Nat) (h : LrAt w sa sc sl ga gc gl da dc dl ua uc ul na nc nl) (hX : ∀ b ∈ X, b < w.heap.size) (hw : wdP t ⟨m, y, z, p, d, o, g⟩ u n sl gl dl (ul.map Nt.o) (nl.map Nt.o)) :
    Calls Try.prog 30 #[.agg #[.int .i64 t, .int .i64 m, .int .i64 y, .int .i64 z, .int .i64 p, .int .i64 d, .int .i64 o, .int .i64 g, .int .i64 u, .int .i64 n, .slice sa sl.length sc, .slice ga gl.length gc, .slice da dl.length dc, .slice ua ul.length uc, .slice na nl.length nc], .agg #[.int .i64 1, .int .i64 sat, .bool sd]] w (DoPost w X) := by
  obtain ⟨hd, hu, hn, hsl, hgl, hum, hnm⟩ := wd_le hw
  have HR := Lib.hid h
  have HW := Lib.hid hw
  clear hw
  obtain ⟨C0, hC0⟩ : ∃ C, C = w.heap.size := ⟨_, rfl⟩
  obtain ⟨C1, hC1⟩ : ∃ C, C = w.heap.size + 1 := ⟨_, rfl⟩
  obtain ⟨C2, hC2⟩ : ∃ C, C = w.heap.size + 1 + 1 := ⟨_, rfl⟩
  have k := ((((Sw.start (LwAt.nil w w.heap.size X hX) (Nat.le_refl _)).new 53 #[.int .i64 t, .int .i64 m, .int .i64 y, .int .i64 z, .int .i64 p, .int .i64 d, .int .i64 o, .int .i64 g, .int .i64 u, .int .i64 n, .slice sa sl.length sc, .slice ga gl.length gc, .slice da dl.length dc, .slice ua ul.length uc, .slice na nl.length nc]).new 59 #[.int .i64 1, .int .i64 sat, .bool sd]).new 53 #[.int .i64 0, .int .i64 0, .int .i64 0, .int .i64 0, .int .i64 0, .int .i64 0, .int .i64 0, .int .i64 0, .int .i64 0, .int .i64 0, .slice none 0 0, .slice none 0 0, .slice none 0 0, .slice none 0 0, .slice none 0 0])
  simp only [World.size_alloc] at k
  rw [← hC2, ← hC1, ← hC0] at k
  have H0 := Lib.hid k
  clear k h hX
  go_enter Try.func30, Try.ntmps30
  go_upto_region 1 with fail
  try simp only [World.size_alloc]
  try rw [← hC2]
  try rw [← hC1]
  try rw [← hC0]
  have HCC := Lib.hid hC0
  clear hC0 hC1 hC2
  generalize (((w.alloc (.cells #[.int .i64 t, .int .i64 m, .int .i64 y, .int .i64 z, .int .i64 p, .int .i64 d, .int .i64 o, .int .i64 g, .int .i64 u, .int .i64 n, .slice sa sl.length sc, .slice ga gl.length gc, .slice da dl.length dc, .slice ua ul.length uc, .slice na nl.length nc] 53)).alloc (.cells #[.int .i64 1, .int .i64 sat, .bool sd] 59)).alloc (.cells #[.int .i64 0, .int .i64 0, .int .i64 0, .int .i64 0, .int .i64 0, .int .i64 0, .int .i64 0, .int .i64 0, .int .i64 0, .int .i64 0, .slice none 0 0, .slice none 0 0, .slice none 0 0, .slice none 0 0, .slice none 0 0] 53)) = W0 at *
  go_wp2_with (refine wpList_load_row rfl 53 _ rfl C0 rfl 53 _ (0, 0) _ H0.out.b2 Try.underlying53 rfl info_w ?_)
  refine (wcopy_S t m y z p d o g u n sa sc sl ga gc gl da dc dl ua uc ul na nc nl W0 _ (HR.out.kept (H0.out.k.grown (World.grownBy.refl _ _) (Nat.le_of_eq HCC.out.symm))) H0.out.l.xl (by omega) (by omega) (by omega) (by omega) (by omega) hum hnm).mono ?_
  rintro e w1 ⟨sa2, sc2, ga2, gc2, da2, dc2, ua2, uc2, us, na2, nc2, ns, rfl, hl, hg, hus, hns⟩
  have H1 := Lib.hid (H0.out.anew hl hg)
  have hW2 := HW.out
  rw [← hus, ← hns] at hW2
  have HW2 := Lib.hid hW2
  have hu2 : us.length ≤ 60 := by rw [o_len hus]; exact hu
  have hn2 : ns.length ≤ 300 := by rw [o_len hns]; exact hn
  have HU2 := Lib.hid (o_len hus)
  obtain ⟨_, _, _, _, _, hum2, hnm2⟩ := wd_le hW2
  clear hl hg hus hns hW2 H0
  have H2 := Lib.hid (H1.out.new 53 #[.int .i64 t, .int .i64 m, .int .i64 y, .int .i64 z, .int .i64 p, .int .i64 d, .int .i64 o, .int .i64 g, .int .i64 u, .int .i64 n, .slice sa2 sl.length sc2, .slice ga2 gl.length gc2, .slice da2 dl.length dc2, .slice ua2 us.length uc2, .slice na2 ns.length nc2])
  go_upto_region 3 with fail
  generalize w1.alloc (.cells #[.int .i64 t, .int .i64 m, .int .i64 y, .int .i64 z, .int .i64 p, .int .i64 d, .int .i64 o, .int .i64 g, .int .i64 u, .int .i64 n, .slice sa2 sl.length sc2, .slice ga2 gl.length gc2, .slice da2 dl.length dc2, .slice ua2 us.length uc2, .slice na2 ns.length nc2] 53) = w2 at *
  generalize w1.heap.size = C3 at *
  clear H1
  have kd0 : (w2).cell? ⟨C1, 0, none⟩ = some (.int .i64 1) := H2.out.b2.c 0 rfl
  go_upto_region 6 with fail
  clear kd0
  go_wp2_with (refine wpList_load_row rfl 53 _ rfl C3 rfl 53 _ (0, 0) _ H2.out.b0 Try.underlying53 rfl info_w ?_)
  refine (new_S t m y z p d o g u n sa2 sc2 sl ga2 gc2 gl da2 dc2 dl ua2 uc2 us na2 nc2 ns w2 C0 (C3 :: C2 :: C1 :: C0 :: X) H2.out.l (Nat.le_trans (Nat.le_of_eq HCC.out) H2.out.k.size) (by omega) (by omega) (by omega) (by omega) (by omega) hum2 hnm2).mono ?_
  rintro e w3 ⟨⟨t3, m3, y3, z3, p3, d3, o3, g3, u3, n3, sa3, sc3, sl3, ga3, gc3, gl3, da3, dc3, dl3, ua3, uc3, ul3, na3, nc3, nl3⟩, k3, rfl, ha, hk, hle⟩
  have H3 := Lib.hid (H2.out.call ha hk)
  have HLE := Lib.hid hle
  clear ha hk hle
  dsimp only [Wv.v]
  dsimp only [Wv.le] at HLE
  have H4 := Lib.hid (H3.out.row0 #[.int .i64 t3, .int .i64 m3, .int .i64 y3, .int .i64 z3, .int .i64 p3, .int .i64 d3, .int .i64 o3, .int .i64 g3, .int .i64 u3, .int .i64 n3, .slice sa3 sl3.length sc3, .slice ga3 gl3.length gc3, .slice da3 dl3.length dc3, .slice ua3 ul3.length uc3, .slice na3 nl3.length nc3])
  go_upto_region 25 with (refine wpList_store_row rfl 53 _ _ rfl C3 #[.int .i64 t3, .int .i64 m3, .int .i64 y3, .int .i64 z3, .int .i64 p3, .int .i64 d3, .int .i64 o3, .int .i64 g3, .int .i64 u3, .int .i64 n3, .slice sa3 sl3.length sc3, .slice ga3 gl3.length gc3, .slice da3 dl3.length dc3, .slice ua3 ul3.length uc3, .slice na3 nl3.length nc3] rfl rfl 53 _ H3.out.b0 info_w rfl (by simp [Value.oneCell']) ?_)
  generalize (w3.setRow C3 #[.int .i64 t3, .int .i64 m3, .int .i64 y3, .int .i64 z3, .int .i64 p3, .int .i64 d3, .int .i64 o3, .int .i64 g3, .int .i64 u3, .int .i64 n3, .slice sa3 sl3.length sc3, .slice ga3 gl3.length gc3, .slice da3 dl3.length dc3, .slice ua3 ul3.length uc3, .slice na3 nl3.length nc3]) = w4 at *
  try simp only [Act.put]
  clear H3
  obtain ⟨le1, le2, le3, le4, le5, le6, le7⟩ := HLE.out
  have c11 : (w4).cell? ⟨C3, 11, none⟩ = some (.slice ga3 gl3.length gc3) := H4.out.b0.c 11 rfl
  have c12 : (w4).cell? ⟨C3, 12, none⟩ = some (.slice da3 dl3.length dc3) := H4.out.b0.c 12 rfl
  have c13 : (w4).cell? ⟨C3, 13, none⟩ = some (.slice ua3 ul3.length uc3) := H4.out.b0.c 13 rfl
  have c14 : (w4).cell? ⟨C3, 14, none⟩ = some (.slice na3 nl3.length nc3) := H4.out.b0.c 14 rfl
  go_cut [131] (fun v wx => ∃ b : Bool, v = .bool b ∧ Sw w C0 X [(C3, 53, #[.int .i64 t3, .int .i64 m3, .int .i64 y3, .int .i64 z3, .int .i64 p3, .int .i64 d3, .int .i64 o3, .int .i64 g3, .int .i64 u3, .int .i64 n3, .slice sa3 sl3.length sc3, .slice ga3 gl3.length gc3, .slice da3 dl3.length dc3, .slice ua3 ul3.length uc3, .slice na3 nl3.length nc3]), (C2, 53, #[.int .i64 0, .int .i64 0, .int .i64 0, .int .i64 0, .int .i64 0, .int .i64 0, .int .i64 0, .int .i64 0, .int .i64 0, .int .i64 0, .slice none 0 0, .slice none 0 0, .slice none 0 0, .slice none 0 0, .slice none 0 0]), (C1, 59, #[.int .i64 1, .int .i64 sat, .bool sd]), (C0, 53, #[.int .i64 t, .int .i64 m, .int .i64 y, .int .i64 z, .int .i64 p, .int .i64 d, .int .i64 o, .int .i64 g, .int .i64 u, .int .i64 n, .slice sa sl.length sc, .slice ga gl.length gc, .slice da dl.length dc, .slice ua ul.length uc, .slice na nl.length nc])] sa3 sc3 sl3 ga3 gc3 gl3 da3 dc3 dl3 ua3 uc3 ul3 na3 nc3 nl3 wx)
  case first =>
    as_aux_lemma =>
      by_cases q1 : 300 < nl3.length
      · have q1i : (300 : Int) < (nl3.length : Int) := by omega
        have q1b : decide ((300 : Int) < (nl3.length : Int)) = true := decide_eq_true q1i
        clear q1 q1i
        go_wp2_with fail
        go_meet
        exact ⟨_, rfl, H4.out⟩
      · have q1i : ¬ (300 : Int) < (nl3.length : Int) := by omega
        have q1b : decide ((300 : Int) < (nl3.length : Int)) = false := decide_eq_false q1i
        clear q1 q1i
        by_cases q2 : 60 < dl3.length
        · have q2i : (60 : Int) < (dl3.length : Int) := by omega
          have q2b : decide ((60 : Int) < (dl3.length : Int)) = true := decide_eq_true q2i
          clear q2 q2i
          go_wp2_with fail
          go_meet
          exact ⟨_, rfl, H4.out⟩
        · have q2i : ¬ (60 : Int) < (dl3.length : Int) := by omega
          have q2b : decide ((60 : Int) < (dl3.length : Int)) = false := decide_eq_false q2i
          clear q2 q2i
          by_cases q3 : 60 < ul3.length
          · have q3i : (60 : Int) < (ul3.length : Int) := by omega
            have q3b : decide ((60 : Int) < (ul3.length : Int)) = true := decide_eq_true q3i
            clear q3 q3i
            go_wp2_with fail
            go_meet
            exact ⟨_, rfl, H4.out⟩
          · have q3i : ¬ (60 : Int) < (ul3.length : Int) := by omega
            have q3b : decide ((60 : Int) < (ul3.length : Int)) = false := decide_eq_false q3i
            clear q3 q3i
            go_wp2_with fail
            refine (P7.ok_spec ga3 gc3 gl3 _ H4.out.l.g.at (by omega)).mono ?_
            rintro e wq ⟨rfl, hg⟩
            go_wp2_with fail
            go_meet
            exact ⟨_, rfl, H4.out.keep hg⟩
  case rest =>
    clear c11 c12 c13 c14
    obtain ⟨bb, rfl, hs⟩ := hcut
    generalize hwc : wc = V7 at *
    clear hwc
    have HT := Lib.hid hs
    clear hs
    cases bb
    · go_upto_region 27 with fail
      have HK := Lib.hid (HT.out.row1 #[.int .i64 t3, .int .i64 m3, .int .i64 y3, .int .i64 z3, .int .i64 p3, .int .i64 d3, .int .i64 o3, .int .i64 g3, .int .i64 u3, .int .i64 n3, .slice sa3 sl3.length sc3, .slice ga3 gl3.length gc3, .slice da3 dl3.length dc3, .slice ua3 ul3.length uc3, .slice na3 nl3.length nc3])
      go_wp2_with (first | (refine wpList_load_row rfl 53 _ rfl C3 rfl 53 _ (0, 0) _ HT.out.b0 Try.underlying53 rfl info_w ?_) | (refine wpList_store_row rfl 53 _ _ rfl C2 #[.int .i64 t3, .int .i64 m3, .int .i64 y3, .int .i64 z3, .int .i64 p3, .int .i64 d3, .int .i64 o3, .int .i64 g3, .int .i64 u3, .int .i64 n3, .slice sa3 sl3.length sc3, .slice ga3 gl3.length gc3, .slice da3 dl3.length dc3, .slice ua3 ul3.length uc3, .slice na3 nl3.length nc3] rfl rfl 53 _ HT.out.b1 info_w rfl (by simp [Value.oneCell']) ?_))
      generalize (V7.setRow C2 #[.int .i64 t3, .int .i64 m3, .int .i64 y3, .int .i64 z3, .int .i64 p3, .int .i64 d3, .int .i64 o3, .int .i64 g3, .int .i64 u3, .int .i64 n3, .slice sa3 sl3.length sc3, .slice ga3 gl3.length gc3, .slice da3 dl3.length dc3, .slice ua3 ul3.length uc3, .slice na3 nl3.length nc3]) = wz at *
      refine bodyPost_ret (v := .tuple #[.agg #[.int .i64 t3, .int .i64 m3, .int .i64 y3, .int .i64 z3, .int .i64 p3, .int .i64 d3, .int .i64 o3, .int .i64 g3, .int .i64 u3, .int .i64 n3, .slice sa3 sl3.length sc3, .slice ga3 gl3.length gc3, .slice da3 dl3.length dc3, .slice ua3 ul3.length uc3, .slice na3 nl3.length nc3], .int .i64 (k3)]) (results_world Try.results30 _ _ C2 53 _ (0, 0) _ _ rfl rfl HK.out.b1 Try.underlying53 rfl info_w) rfl ?_
      refine ⟨⟨t3, m3, y3, z3, p3, d3, o3, g3, u3, n3, sa3, sc3, sl3, ga3, gc3, gl3, da3, dc3, dl3, ua3, uc3, ul3, na3, nc3, nl3⟩, k3, by simp [Wv.v], LwAt.base HK.out.fin.1 (Nat.le_of_eq HCC.out.symm), HK.out.k.grown (World.grownBy.refl _ _) (Nat.le_of_eq HCC.out.symm), ?_⟩
      unfold Wv.le
      dsimp only
      exact ⟨by omega, by omega, by omega, by omega, by omega, le6, le7⟩
    · go_upto_region 26 with fail
      go_wp2_with (refine wpList_load_row rfl 53 _ rfl C0 rfl 53 _ (0, 0) _ HT.out.b3 Try.underlying53 rfl info_w ?_)
      refine (wcopy_S t m y z p d o g u n sa sc sl ga gc gl da dc dl ua uc ul na nc nl V7 _ (HR.out.kept (HT.out.k.grown (World.grownBy.refl _ _) (Nat.le_of_eq HCC.out.symm))) HT.out.l.xl (by omega) (by omega) (by omega) (by omega) (by omega) hum hnm).mono ?_
      rintro e w9 ⟨sa9, sc9, ga9, gc9, da9, dc9, ua9, uc9, us9, na9, nc9, ns9, rfl, hl, hg, hus, hns⟩
      have H9 := Lib.hid (HT.out.anew hl hg)
      have hW9 := HW.out
      rw [← hus, ← hns] at hW9
      have hu9 : us9.length ≤ 60 := by rw [o_len hus]; exact hu
      have hn9 : ns9.length ≤ 300 := by rw [o_len hns]; exact hn
      obtain ⟨_, _, _, _, _, hum9, hnm9⟩ := wd_le hW9
      clear hl hg hus hns hW9 HT
      have HK := Lib.hid (H9.out.row1 #[.int .i64 t, .int .i64 m, .int .i64 y, .int .i64 z, .int .i64 p, .int .i64 d, .int .i64 o, .int .i64 g, .int .i64 u, .int .i64 n, .slice sa9 sl.length sc9, .slice ga9 gl.length gc9, .slice da9 dl.length dc9, .slice ua9 us9.length uc9, .slice na9 ns9.length nc9])
      go_wp2_with (first | (refine wpList_store_row rfl 53 _ _ rfl C2 #[.int .i64 t, .int .i64 m, .int .i64 y, .int .i64 z, .int .i64 p, .int .i64 d, .int .i64 o, .int .i64 g, .int .i64 u, .int .i64 n, .slice sa9 sl.length sc9, .slice ga9 gl.length gc9, .slice da9 dl.length dc9, .slice ua9 us9.length uc9, .slice na9 ns9.length nc9] rfl rfl 53 _ H9.out.b1 info_w rfl (by simp [Value.oneCell']) ?_))
      generalize (w9.setRow C2 #[.int .i64 t, .int .i64 m, .int .i64 y, .int .i64 z, .int .i64 p, .int .i64 d, .int .i64 o, .int .i64 g, .int .i64 u, .int .i64 n, .slice sa9 sl.length sc9, .slice ga9 gl.length gc9, .slice da9 dl.length dc9, .slice ua9 us9.length uc9, .slice na9 ns9.length nc9]) = wz at *
      refine bodyPost_ret (v := .tuple #[.agg #[.int .i64 t, .int .i64 m, .int .i64 y, .int .i64 z, .int .i64 p, .int .i64 d, .int .i64 o, .int .i64 g, .int .i64 u, .int .i64 n, .slice sa9 sl.length sc9, .slice ga9 gl.length gc9, .slice da9 dl.length dc9, .slice ua9 us9.length uc9, .slice na9 ns9.length nc9], .int .i64 (3)]) (results_world Try.results30 _ _ C2 53 _ (0, 0) _ _ rfl rfl HK.out.b1 Try.underlying53 rfl info_w) rfl ?_
      refine ⟨⟨t, m, y, z, p, d, o, g, u, n, sa9, sc9, sl, ga9, gc9, gl, da9, dc9, dl, ua9, uc9, us9, na9, nc9, ns9⟩, 3, by simp [Wv.v], LwAt.base HK.out.fin.1 (Nat.le_of_eq HCC.out.symm), HK.out.k.grown (World.grownBy.refl _ _) (Nat.le_of_eq HCC.out.symm), ?_⟩
      unfold Wv.le
      dsimp only
      exact ⟨by omega, by omega, by omega, by omega, by omega, hum9, hnm9⟩

set_option maxRecDepth 100000 in
set_option maxHeartbeats 8000000 in
theorem do_late (t m y z p d o g u n : Int) (sa : Option Addr) (sc : Nat) (sl : List Rg) (ga : Option Addr) (gc : Nat) (gl : List Pk) (da : Option Addr) (dc : Nat) (dl : List Rg) (ua : Option Addr) (uc : Nat) (ul : List Nt) (na : Option Addr) (nc : Nat) (nl : List Nt) (sat : Int) (sd : Bool) (w : World) (X : List Nat) (h : LrAt w sa sc sl ga gc gl da dc dl ua uc ul na nc nl) (hX : ∀ b ∈ X, b < w.heap.size) (hw : wdP t ⟨m, y, z, p, d, o, g⟩ u n sl gl dl (ul.map Nt.o) (nl.map Nt.o)) :
    Calls Try.prog 30 #[.agg #[.int .i64 t, .int .i64 m, .int .i64 y, .int .i64 z, .int .i64 p, .int .i64 d, .int .i64 o, .int .i64 g, .int .i64 u, .int .i64 n, .slice sa sl.length sc, .slice ga gl.length gc, .slice da dl.length dc, .slice ua ul.length uc, .slice na nl.length nc], .agg #[.int .i64 4, .int .i64 sat, .bool sd]] w (DoPost w X) := by
  obtain ⟨hd, hu, hn, hsl, hgl, hum, hnm⟩ := wd_le hw
  have HR := Lib.hid h
  have HW := Lib.hid hw
  clear hw
  obtain ⟨C0, hC0⟩ : ∃ C, C = w.heap.size := ⟨_, rfl⟩
  obtain ⟨C1, hC1⟩ : ∃ C, C = w.heap.size + 1 := ⟨_, rfl⟩
  obtain ⟨C2, hC2⟩ : ∃ C, C = w.heap.size + 1 + 1 := ⟨_, rfl⟩
  have k := ((((Sw.start (LwAt.nil w w.heap.size X hX) (Nat.le_refl _)).new 53 #[.int .i64 t, .int .i64 m, .int .i64 y, .int .i64 z, .int .i64 p, .int .i64 d, .int .i64 o, .int .i64 g, .int .i64 u, .int .i64 n, .slice sa sl.length sc, .slice ga gl.length gc, .slice da dl.length dc, .slice ua ul.length uc, .slice na nl.length nc]).new 59 #[.int .i64 4, .int .i64 sat, .bool sd]).new 53 #[.int .i64 0, .int .i64 0, .int .i64 0, .int .i64 0, .int .i64 0, .int .i64 0, .int .i64 0, .int .i64 0, .int .i64 0, .int .i64 0, .slice none 0 0, .slice none 0 0, .slice none 0 0, .slice none 0 0, .slice none 0 0])
  simp only [World.size_alloc] at k
  rw [← hC2, ← hC1, ← hC0] at k
  have H0 := Lib.hid k
  clear k h hX
  go_enter Try.func30, Try.ntmps30
  go_upto_region 1 with fail
  try simp only [World.size_alloc]
  try rw [← hC2]
  try rw [← hC1]
  try rw [← hC0]
  have HCC := Lib.hid hC0
  clear hC0 hC1 hC2
  generalize (((w.alloc (.cells #[.int .i64 t, .int .i64 m, .int .i64 y, .int .i64 z, .int .i64 p, .int .i64 d, .int .i64 o, .int .i64 g, .int .i64 u, .int .i64 n, .slice sa sl.length sc, .slice ga gl.length gc, .slice da dl.length dc, .slice ua ul.length uc, .slice na nl.length nc] 53)).alloc (.cells #[.int .i64 4, .int .i64 sat, .bool sd] 59)).alloc (.cells #[.int .i64 0, .int .i64 0, .int .i64 0, .int .i64 0, .int .i64 0, .int .i64 0, .int .i64 0, .int .i64 0, .int .i64 0, .int .i64 0, .slice none 0 0, .slice none 0 0, .slice none 0 0, .slice none 0 0, .slice none 0 0] 53)) = W0 at *
  go_wp2_with (refine wpList_load_row rfl 53 _ rfl C0 rfl 53 _ (0, 0) _ H0.out.b2 Try.underlying53 rfl info_w ?_)
  refine (wcopy_S t m y z p d o g u n sa sc sl ga gc gl da dc dl ua uc ul na nc nl W0 _ (HR.out.kept (H0.out.k.grown (World.grownBy.refl _ _) (Nat.le_of_eq HCC.out.symm))) H0.out.l.xl (by omega) (by omega) (by omega) (by omega) (by omega) hum hnm).mono ?_
  rintro e w1 ⟨sa2, sc2, ga2, gc2, da2, dc2, ua2, uc2, us, na2, nc2, ns, rfl, hl, hg, hus, hns⟩
  have H1 := Lib.hid (H0.out.anew hl hg)
  have hW2 := HW.out
  rw [← hus, ← hns] at hW2
  have HW2 := Lib.hid hW2
  have hu2 : us.length ≤ 60 := by rw [o_len hus]; exact hu
  have hn2 : ns.length ≤ 300 := by rw [o_len hns]; exact hn
  have HU2 := Lib.hid (o_len hus)
  obtain ⟨_, _, _, _, _, hum2, hnm2⟩ := wd_le hW2
  clear hl hg hus hns hW2 H0
  have H2 := Lib.hid (H1.out.new 53 #[.int .i64 t, .int .i64 m, .int .i64 y, .int .i64 z, .int .i64 p, .int .i64 d, .int .i64 o, .int .i64 g, .int .i64 u, .int .i64 n, .slice sa2 sl.length sc2, .slice ga2 gl.length gc2, .slice da2 dl.length dc2, .slice ua2 us.length uc2, .slice na2 ns.length nc2])
  go_upto_region 3 with fail
  generalize w1.alloc (.cells #[.int .i64 t, .int .i64 m, .int .i64 y, .int .i64 z, .int .i64 p, .int .i64 d, .int .i64 o, .int .i64 g, .int .i64 u, .int .i64 n, .slice sa2 sl.length sc2, .slice ga2 gl.length gc2, .slice da2 dl.length dc2, .slice ua2 us.length uc2, .slice na2 ns.length nc2] 53) = w2 at *
  generalize w1.heap.size = C3 at *
  clear H1
  have kd0 : (w2).cell? ⟨C1, 0, none⟩ = some (.int .i64 4) := H2.out.b2.c 0 rfl
  have c8 : (w2).cell? ⟨C3, 8, none⟩ = some (.int .i64 u) := H2.out.b0.c 8 rfl
  have c9 : (w2).cell? ⟨C3, 9, none⟩ = some (.int .i64 n) := H2.out.b0.c 9 rfl
  have hrn := HW.out.2.1.1
  have hu0 := HW.out.2.2.1.1.1
  have hun := HW.out.2.2.1.1.2.1
  have hn9 := HW.out.2.2.1.1.2.2.1
  by_cases hq : n = u
  · have hqb : ((n : Int) == u) = true := by simpa using hq
    clear hq
    go_upto_region 23 with fail
    have HK := Lib.hid (H2.out.row1 #[.int .i64 t, .int .i64 m, .int .i64 y, .int .i64 z, .int .i64 p, .int .i64 d, .int .i64 o, .int .i64 g, .int .i64 u, .int .i64 n, .slice sa2 sl.length sc2, .slice ga2 gl.length gc2, .slice da2 dl.length dc2, .slice ua2 us.length uc2, .slice na2 ns.length nc2])
    go_wp2_with (first | (refine wpList_load_row rfl 53 _ rfl C3 rfl 53 _ (0, 0) _ H2.out.b0 Try.underlying53 rfl info_w ?_) | (refine wpList_store_row rfl 53 _ _ rfl C2 #[.int .i64 t, .int .i64 m, .int .i64 y, .int .i64 z, .int .i64 p, .int .i64 d, .int .i64 o, .int .i64 g, .int .i64 u, .int .i64 n, .slice sa2 sl.length sc2, .slice ga2 gl.length gc2, .slice da2 dl.length dc2, .slice ua2 us.length uc2, .slice na2 ns.length nc2] rfl rfl 53 _ H2.out.b1 info_w rfl (by simp [Value.oneCell']) ?_))
    generalize (w2.setRow C2 #[.int .i64 t, .int .i64 m, .int .i64 y, .int .i64 z, .int .i64 p, .int .i64 d, .int .i64 o, .int .i64 g, .int .i64 u, .int .i64 n, .slice sa2 sl.length sc2, .slice ga2 gl.length gc2, .slice da2 dl.length dc2, .slice ua2 us.length uc2, .slice na2 ns.length nc2]) = wz at *
    refine bodyPost_ret (v := .tuple #[.agg #[.int .i64 t, .int .i64 m, .int .i64 y, .int .i64 z, .int .i64 p, .int .i64 d, .int .i64 o, .int .i64 g, .int .i64 u, .int .i64 n, .slice sa2 sl.length sc2, .slice ga2 gl.length gc2, .slice da2 dl.length dc2, .slice ua2 us.length uc2, .slice na2 ns.length nc2], .int .i64 (2)]) (results_world Try.results30 _ _ C2 53 _ (0, 0) _ _ rfl rfl HK.out.b1 Try.underlying53 rfl info_w) rfl ?_
    refine ⟨⟨t, m, y, z, p, d, o, g, u, n, sa2, sc2, sl, ga2, gc2, gl, da2, dc2, dl, ua2, uc2, us, na2, nc2, ns⟩, 2, by simp [Wv.v], LwAt.base HK.out.fin.1 (Nat.le_of_eq HCC.out.symm), HK.out.k.grown (World.grownBy.refl _ _) (Nat.le_of_eq HCC.out.symm), ?_⟩
    unfold Wv.le
    dsimp only
    exact ⟨by omega, by omega, by omega, by omega, by omega, hum2, hnm2⟩
  · have hqb : ((n : Int) == u) = false := by simpa using hq
    clear hq
    go_upto_region 24 with fail
    clear kd0 c8 c9
    go_wp2_with (refine wpList_load_row rfl 53 _ rfl C3 rfl 53 _ (0, 0) _ H2.out.b0 Try.underlying53 rfl info_w ?_)
    refine (late_S t m y z p d o g u n sa2 sc2 sl ga2 gc2 gl da2 dc2 dl ua2 uc2 us na2 nc2 ns w2 C0 (C3 :: C2 :: C1 :: C0 :: X) H2.out.l (Nat.le_trans (Nat.le_of_eq HCC.out) H2.out.k.size) (by omega) (by omega) (by omega) (by omega) (by omega) hum2 hnm2 hrn hu0 hun hn9).mono ?_
    rintro e w3 ⟨⟨t3, m3, y3, z3, p3, d3, o3, g3, u3, n3, sa3, sc3, sl3, ga3, gc3, gl3, da3, dc3, dl3, ua3, uc3, ul3, na3, nc3, nl3⟩, rfl, ha, hk, hle⟩
    have H3 := Lib.hid (H2.out.call ha hk)
    have HLE := Lib.hid hle
    clear ha hk hle
    dsimp only [Wv.v]
    dsimp only [Wv.le] at HLE
    have H4 := Lib.hid (H3.out.row0 #[.int .i64 t3, .int .i64 m3, .int .i64 y3, .int .i64 z3, .int .i64 p3, .int .i64 d3, .int .i64 o3, .int .i64 g3, .int .i64 u3, .int .i64 n3, .slice sa3 sl3.length sc3, .slice ga3 gl3.length gc3, .slice da3 dl3.length dc3, .slice ua3 ul3.length uc3, .slice na3 nl3.length nc3])
    go_upto_region 25 with (refine wpList_store_row rfl 53 _ _ rfl C3 #[.int .i64 t3, .int .i64 m3, .int .i64 y3, .int .i64 z3, .int .i64 p3, .int .i64 d3, .int .i64 o3, .int .i64 g3, .int .i64 u3, .int .i64 n3, .slice sa3 sl3.length sc3, .slice ga3 gl3.length gc3, .slice da3 dl3.length dc3, .slice ua3 ul3.length uc3, .slice na3 nl3.length nc3] rfl rfl 53 _ H3.out.b0 info_w rfl (by simp [Value.oneCell']) ?_)
    generalize (w3.setRow C3 #[.int .i64 t3, .int .i64 m3, .int .i64 y3, .int .i64 z3, .int .i64 p3, .int .i64 d3, .int .i64 o3, .int .i64 g3, .int .i64 u3, .int .i64 n3, .slice sa3 sl3.length sc3, .slice ga3 gl3.length gc3, .slice da3 dl3.length dc3, .slice ua3 ul3.length uc3, .slice na3 nl3.length nc3]) = w4 at *
    try simp only [Act.put]
    clear H3
    obtain ⟨le1, le2, le3, le4, le5, le6, le7⟩ := HLE.out
    have c11 : (w4).cell? ⟨C3, 11, none⟩ = some (.slice ga3 gl3.length gc3) := H4.out.b0.c 11 rfl
    have c12 : (w4).cell? ⟨C3, 12, none⟩ = some (.slice da3 dl3.length dc3) := H4.out.b0.c 12 rfl
    have c13 : (w4).cell? ⟨C3, 13, none⟩ = some (.slice ua3 ul3.length uc3) := H4.out.b0.c 13 rfl
    have c14 : (w4).cell? ⟨C3, 14, none⟩ = some (.slice na3 nl3.length nc3) := H4.out.b0.c 14 rfl
    go_cut [131] (fun v wx => ∃ b : Bool, v = .bool b ∧ Sw w C0 X [(C3, 53, #[.int .i64 t3, .int .i64 m3, .int .i64 y3, .int .i64 z3, .int .i64 p3, .int .i64 d3, .int .i64 o3, .int .i64 g3, .int .i64 u3, .int .i64 n3, .slice sa3 sl3.length sc3, .slice ga3 gl3.length gc3, .slice da3 dl3.length dc3, .slice ua3 ul3.length uc3, .slice na3 nl3.length nc3]), (C2, 53, #[.int .i64 0, .int .i64 0, .int .i64 0, .int .i64 0, .int .i64 0, .int .i64 0, .int .i64 0, .int .i64 0, .int .i64 0, .int .i64 0, .slice none 0 0, .slice none 0 0, .slice none 0 0, .slice none 0 0, .slice none 0 0]), (C1, 59, #[.int .i64 4, .int .i64 sat, .bool sd]), (C0, 53, #[.int .i64 t, .int .i64 m, .int .i64 y, .int .i64 z, .int .i64 p, .int .i64 d, .int .i64 o, .int .i64 g, .int .i64 u, .int .i64 n, .slice sa sl.length sc, .slice ga gl.length gc, .slice da dl.length dc, .slice ua ul.length uc, .slice na nl.length nc])] sa3 sc3 sl3 ga3 gc3 gl3 da3 dc3 dl3 ua3 uc3 ul3 na3 nc3 nl3 wx)
    case first =>
      as_aux_lemma =>
        by_cases q1 : 300 < nl3.length
        · have q1i : (300 : Int) < (nl3.length : Int) := by omega
          have q1b : decide ((300 : Int) < (nl3.length : Int)) = true := decide_eq_true q1i
          clear q1 q1i
          go_wp2_with fail
          go_meet
          exact ⟨_, rfl, H4.out⟩
        · have q1i : ¬ (300 : Int) < (nl3.length : Int) := by omega
          have q1b : decide ((300 : Int) < (nl3.length : Int)) = false := decide_eq_false q1i
          clear q1 q1i
          by_cases q2 : 60 < dl3.length
          · have q2i : (60 : Int) < (dl3.length : Int) := by omega
            have q2b : decide ((60 : Int) < (dl3.length : Int)) = true := decide_eq_true q2i
            clear q2 q2i
            go_wp2_with fail
            go_meet
            exact ⟨_, rfl, H4.out⟩
          · have q2i : ¬ (60 : Int) < (dl3.length : Int) := by omega
            have q2b : decide ((60 : Int) < (dl3.length : Int)) = false := decide_eq_false q2i
            clear q2 q2i
            by_cases q3 : 60 < ul3.length
            · have q3i : (60 : Int) < (ul3.length : Int) := by omega
              have q3b : decide ((60 : Int) < (ul3.length : Int)) = true := decide_eq_true q3i
              clear q3 q3i
              go_wp2_with fail
              go_meet
              exact ⟨_, rfl, H4.out⟩
            · have q3i : ¬ (60 : Int) < (ul3.length : Int) := by omega
              have q3b : decide ((60 : Int) < (ul3.length : Int)) = false := decide_eq_false q3i
              clear q3 q3i
              go_wp2_with fail
              refine (P7.ok_spec ga3 gc3 gl3 _ H4.out.l.g.at (by omega)).mono ?_
              rintro e wq ⟨rfl, hg⟩
              go_wp2_with fail
              go_meet
              exact ⟨_, rfl, H4.out.keep hg⟩
    case rest =>
      clear c11 c12 c13 c14
      obtain ⟨bb, rfl, hs⟩ := hcut
      generalize hwc : wc = V7 at *
      clear hwc
      have HT := Lib.hid hs
      clear hs
      cases bb
      · go_upto_region 27 with fail
        have HK := Lib.hid (HT.out.row1 #[.int .i64 t3, .int .i64 m3, .int .i64 y3, .int .i64 z3, .int .i64 p3, .int .i64 d3, .int .i64 o3, .int .i64 g3, .int .i64 u3, .int .i64 n3, .slice sa3 sl3.length sc3, .slice ga3 gl3.length gc3, .slice da3 dl3.length dc3, .slice ua3 ul3.length uc3, .slice na3 nl3.length nc3])
        go_wp2_with (first | (refine wpList_load_row rfl 53 _ rfl C3 rfl 53 _ (0, 0) _ HT.out.b0 Try.underlying53 rfl info_w ?_) | (refine wpList_store_row rfl 53 _ _ rfl C2 #[.int .i64 t3, .int .i64 m3, .int .i64 y3, .int .i64 z3, .int .i64 p3, .int .i64 d3, .int .i64 o3, .int .i64 g3, .int .i64 u3, .int .i64 n3, .slice sa3 sl3.length sc3, .slice ga3 gl3.length gc3, .slice da3 dl3.length dc3, .slice ua3 ul3.length uc3, .slice na3 nl3.length nc3] rfl rfl 53 _ HT.out.b1 info_w rfl (by simp [Value.oneCell']) ?_))
        generalize (V7.setRow C2 #[.int .i64 t3, .int .i64 m3, .int .i64 y3, .int .i64 z3, .int .i64 p3, .int .i64 d3, .int .i64 o3, .int .i64 g3, .int .i64 u3, .int .i64 n3, .slice sa3 sl3.length sc3, .slice ga3 gl3.length gc3, .slice da3 dl3.length dc3, .slice ua3 ul3.length uc3, .slice na3 nl3.length nc3]) = wz at *
        refine bodyPost_ret (v := .tuple #[.agg #[.int .i64 t3, .int .i64 m3, .int .i64 y3, .int .i64 z3, .int .i64 p3, .int .i64 d3, .int .i64 o3, .int .i64 g3, .int .i64 u3, .int .i64 n3, .slice sa3 sl3.length sc3, .slice ga3 gl3.length gc3, .slice da3 dl3.length dc3, .slice ua3 ul3.length uc3, .slice na3 nl3.length nc3], .int .i64 (0)]) (results_world Try.results30 _ _ C2 53 _ (0, 0) _ _ rfl rfl HK.out.b1 Try.underlying53 rfl info_w) rfl ?_
        refine ⟨⟨t3, m3, y3, z3, p3, d3, o3, g3, u3, n3, sa3, sc3, sl3, ga3, gc3, gl3, da3, dc3, dl3, ua3, uc3, ul3, na3, nc3, nl3⟩, 0, by simp [Wv.v], LwAt.base HK.out.fin.1 (Nat.le_of_eq HCC.out.symm), HK.out.k.grown (World.grownBy.refl _ _) (Nat.le_of_eq HCC.out.symm), ?_⟩
        unfold Wv.le
        dsimp only
        exact ⟨by omega, by omega, by omega, by omega, by omega, le6, le7⟩
      · go_upto_region 26 with fail
        go_wp2_with (refine wpList_load_row rfl 53 _ rfl C0 rfl 53 _ (0, 0) _ HT.out.b3 Try.underlying53 rfl info_w ?_)
        refine (wcopy_S t m y z p d o g u n sa sc sl ga gc gl da dc dl ua uc ul na nc nl V7 _ (HR.out.kept (HT.out.k.grown (World.grownBy.refl _ _) (Nat.le_of_eq HCC.out.symm))) HT.out.l.xl (by omega) (by omega) (by omega) (by omega) (by omega) hum hnm).mono ?_
        rintro e w9 ⟨sa9, sc9, ga9, gc9, da9, dc9, ua9, uc9, us9, na9, nc9, ns9, rfl, hl, hg, hus, hns⟩
        have H9 := Lib.hid (HT.out.anew hl hg)
        have hW9 := HW.out
        rw [← hus, ← hns] at hW9
        have hu9 : us9.length ≤ 60 := by rw [o_len hus]; exact hu
        have hn9 : ns9.length ≤ 300 := by rw [o_len hns]; exact hn
        obtain ⟨_, _, _, _, _, hum9, hnm9⟩ := wd_le hW9
        clear hl hg hus hns hW9 HT
        have HK := Lib.hid (H9.out.row1 #[.int .i64 t, .int .i64 m, .int .i64 y, .int .i64 z, .int .i64 p, .int .i64 d, .int .i64 o, .int .i64 g, .int .i64 u, .int .i64 n, .slice sa9 sl.length sc9, .slice ga9 gl.length gc9, .slice da9 dl.length dc9, .slice ua9 us9.length uc9, .slice na9 ns9.length nc9])
        go_wp2_with (first | (refine wpList_store_row rfl 53 _ _ rfl C2 #[.int .i64 t, .int .i64 m, .int .i64 y, .int .i64 z, .int .i64 p, .int .i64 d, .int .i64 o, .int .i64 g, .int .i64 u, .int .i64 n, .slice sa9 sl.length sc9, .slice ga9 gl.length gc9, .slice da9 dl.length dc9, .slice ua9 us9.length uc9, .slice na9 ns9.length nc9] rfl rfl 53 _ H9.out.b1 info_w rfl (by simp [Value.oneCell']) ?_))
        generalize (w9.setRow C2 #[.int .i64 t, .int .i64 m, .int .i64 y, .int .i64 z, .int .i64 p, .int .i64 d, .int .i64 o, .int .i64 g, .int .i64 u, .int .i64 n, .slice sa9 sl.length sc9, .slice ga9 gl.length gc9, .slice da9 dl.length dc9, .slice ua9 us9.length uc9, .slice na9 ns9.length nc9]) = wz at *
        refine bodyPost_ret (v := .tuple #[.agg #[.int .i64 t, .int .i64 m, .int .i64 y, .int .i64 z, .int .i64 p, .int .i64 d, .int .i64 o, .int .i64 g, .int .i64 u, .int .i64 n, .slice sa9 sl.length sc9, .slice ga9 gl.length gc9, .slice da9 dl.length dc9, .slice ua9 us9.length uc9, .slice na9 ns9.length nc9], .int .i64 (3)]) (results_world Try.results30 _ _ C2 53 _ (0, 0) _ _ rfl rfl HK.out.b1 Try.underlying53 rfl info_w) rfl ?_
        refine ⟨⟨t, m, y, z, p, d, o, g, u, n, sa9, sc9, sl, ga9, gc9, gl, da9, dc9, dl, ua9, uc9, us9, na9, nc9, ns9⟩, 3, by simp [Wv.v], LwAt.base HK.out.fin.1 (Nat.le_of_eq HCC.out.symm), HK.out.k.grown (World.grownBy.refl _ _) (Nat.le_of_eq HCC.out.symm), ?_⟩
        unfold Wv.le
        dsimp only
        exact ⟨by omega, by omega, by omega, by omega, by omega, hum9, hnm9⟩

set_option maxRecDepth 100000 in
set_option maxHeartbeats 8000000 in
theorem do_else (t m y z p d o g u n : Int) (sa : Option Addr) (sc : Nat) (sl : List Rg) (ga : Option Addr) (gc : Nat) (gl : List Pk) (da : Option Addr) (dc : Nat) (dl : List Rg) (ua : Option Addr) (uc : Nat) (ul : List Nt) (na : Option Addr) (nc : Nat) (nl : List Nt) (sk sat : Int) (sd : Bool) (w : World) (X : List Nat) (h : LrAt w sa sc sl ga gc gl da dc dl ua uc ul na nc nl) (hX : ∀ b ∈ X, b < w.heap.size) (hw : wdP t ⟨m, y, z, p, d, o, g⟩ u n sl gl dl (ul.map Nt.o) (nl.map Nt.o)) (hk1 : sk ≠ 1) (hk2 : sk ≠ 2) (hk3 : sk ≠ 3) (hk4 : sk ≠ 4) :
    Calls Try.prog 30 #[.agg #[.int .i64 t, .int .i64 m, .int .i64 y, .int .i64 z, .int .i64 p, .int .i64 d, .int .i64 o, .int .i64 g, .int .i64 u, .int .i64 n, .slice sa sl.length sc, .slice ga gl.length gc, .slice da dl.length dc, .slice ua ul.length uc, .slice na nl.length nc], .agg #[.int .i64 sk, .int .i64 sat, .bool sd]] w (DoPost w X) := by
  obtain ⟨hd, hu, hn, hsl, hgl, hum, hnm⟩ := wd_le hw
  have HR := Lib.hid h
  have HW := Lib.hid hw
  clear hw
  obtain ⟨C0, hC0⟩ : ∃ C, C = w.heap.size := ⟨_, rfl⟩
  obtain ⟨C1, hC1⟩ : ∃ C, C = w.heap.size + 1 := ⟨_, rfl⟩
  obtain ⟨C2, hC2⟩ : ∃ C, C = w.heap.size + 1 + 1 := ⟨_, rfl⟩
  have k := ((((Sw.start (LwAt.nil w w.heap.size X hX) (Nat.le_refl _)).new 53 #[.int .i64 t, .int .i64 m, .int .i64 y, .int .i64 z, .int .i64 p, .int .i64 d, .int .i64 o, .int .i64 g, .int .i64 u, .int .i64 n, .slice sa sl.length sc, .slice ga gl.length gc, .slice da dl.length dc, .slice ua ul.length uc, .slice na nl.length nc]).new 59 #[.int .i64 sk, .int .i64 sat, .bool sd]).new 53 #[.int .i64 0, .int .i64 0, .int .i64 0, .int .i64 0, .int .i64 0, .int .i64 0, .int .i64 0, .int .i64 0, .int .i64 0, .int .i64 0, .slice none 0 0, .slice none 0 0, .slice none 0 0, .slice none 0 0, .slice none 0 0])
  simp only [World.size_alloc] at k
  rw [← hC2, ← hC1, ← hC0] at k
  have H0 := Lib.hid k
  clear k h hX
  go_enter Try.func30, Try.ntmps30
  go_upto_region 1 with fail
  try simp only [World.size_alloc]
  try rw [← hC2]
  try rw [← hC1]
  try rw [← hC0]
  have HCC := Lib.hid hC0
  clear hC0 hC1 hC2
  generalize (((w.alloc (.cells #[.int .i64 t, .int .i64 m, .int .i64 y, .int .i64 z, .int .i64 p, .int .i64 d, .int .i64 o, .int .i64 g, .int .i64 u, .int .i64 n, .slice sa sl.length sc, .slice ga gl.length gc, .slice da dl.length dc, .slice ua ul.length uc, .slice na nl.length nc] 53)).alloc (.cells #[.int .i64 sk, .int .i64 sat, .bool sd] 59)).alloc (.cells #[.int .i64 0, .int .i64 0, .int .i64 0, .int .i64 0, .int .i64 0, .int .i64 0, .int .i64 0, .int .i64 0, .int .i64 0, .int .i64 0, .slice none 0 0, .slice none 0 0, .slice none 0 0, .slice none 0 0, .slice none 0 0] 53)) = W0 at *
  go_wp2_with (refine wpList_load_row rfl 53 _ rfl C0 rfl 53 _ (0, 0) _ H0.out.b2 Try.underlying53 rfl info_w ?_)
  refine (wcopy_S t m y z p d o g u n sa sc sl ga gc gl da dc dl ua uc ul na nc nl W0 _ (HR.out.kept (H0.out.k.grown (World.grownBy.refl _ _) (Nat.le_of_eq HCC.out.symm))) H0.out.l.xl (by omega) (by omega) (by omega) (by omega) (by omega) hum hnm).mono ?_
  rintro e w1 ⟨sa2, sc2, ga2, gc2, da2, dc2, ua2, uc2, us, na2, nc2, ns, rfl, hl, hg, hus, hns⟩
  have H1 := Lib.hid (H0.out.anew hl hg)
  have hW2 := HW.out
  rw [← hus, ← hns] at hW2
  have HW2 := Lib.hid hW2
  have hu2 : us.length ≤ 60 := by rw [o_len hus]; exact hu
  have hn2 : ns.length ≤ 300 := by rw [o_len hns]; exact hn
  have HU2 := Lib.hid (o_len hus)
  obtain ⟨_, _, _, _, _, hum2, hnm2⟩ := wd_le hW2
  clear hl hg hus hns hW2 H0
  have H2 := Lib.hid (H1.out.new 53 #[.int .i64 t, .int .i64 m, .int .i64 y, .int .i64 z, .int .i64 p, .int .i64 d, .int .i64 o, .int .i64 g, .int .i64 u, .int .i64 n, .slice sa2 sl.length sc2, .slice ga2 gl.length gc2, .slice da2 dl.length dc2, .slice ua2 us.length uc2, .slice na2 ns.length nc2])
  go_upto_region 3 with fail
  generalize w1.alloc (.cells #[.int .i64 t, .int .i64 m, .int .i64 y, .int .i64 z, .int .i64 p, .int .i64 d, .int .i64 o, .int .i64 g, .int .i64 u, .int .i64 n, .slice sa2 sl.length sc2, .slice ga2 gl.length gc2, .slice da2 dl.length dc2, .slice ua2 us.length uc2, .slice na2 ns.length nc2] 53) = w2 at *
  generalize w1.heap.size = C3 at *
  clear H1
  have kd0 : (w2).cell? ⟨C1, 0, none⟩ = some (.int .i64 sk) := H2.out.b2.c 0 rfl
  have k1 : ((sk : Int) == 1) = false := by simpa using hk1
  have k2 : ((sk : Int) == 2) = false := by simpa using hk2
  have k3 : ((sk : Int) == 3) = false := by simpa using hk3
  have k4 : ((sk : Int) == 4) = false := by simpa using hk4
  clear hk1 hk2 hk3 hk4
  go_upto_region 4 with fail
  have HK := Lib.hid (H2.out.row1 #[.int .i64 t, .int .i64 m, .int .i64 y, .int .i64 z, .int .i64 p, .int .i64 d, .int .i64 o, .int .i64 g, .int .i64 u, .int .i64 n, .slice sa2 sl.length sc2, .slice ga2 gl.length gc2, .slice da2 dl.length dc2, .slice ua2 us.length uc2, .slice na2 ns.length nc2])
  go_wp2_with (first | (refine wpList_load_row rfl 53 _ rfl C3 rfl 53 _ (0, 0) _ H2.out.b0 Try.underlying53 rfl info_w ?_) | (refine wpList_store_row rfl 53 _ _ rfl C2 #[.int .i64 t, .int .i64 m, .int .i64 y, .int .i64 z, .int .i64 p, .int .i64 d, .int .i64 o, .int .i64 g, .int .i64 u, .int .i64 n, .slice sa2 sl.length sc2, .slice ga2 gl.length gc2, .slice da2 dl.length dc2, .slice ua2 us.length uc2, .slice na2 ns.length nc2] rfl rfl 53 _ H2.out.b1 info_w rfl (by simp [Value.oneCell']) ?_))
  generalize (w2.setRow C2 #[.int .i64 t, .int .i64 m, .int .i64 y, .int .i64 z, .int .i64 p, .int .i64 d, .int .i64 o, .int .i64 g, .int .i64 u, .int .i64 n, .slice sa2 sl.length sc2, .slice ga2 gl.length gc2, .slice da2 dl.length dc2, .slice ua2 us.length uc2, .slice na2 ns.length nc2]) = wz at *
  refine bodyPost_ret (v := .tuple #[.agg #[.int .i64 t, .int .i64 m, .int .i64 y, .int .i64 z, .int .i64 p, .int .i64 d, .int .i64 o, .int .i64 g, .int .i64 u, .int .i64 n, .slice sa2 sl.length sc2, .slice ga2 gl.length gc2, .slice da2 dl.length dc2, .slice ua2 us.length uc2, .slice na2 ns.length nc2], .int .i64 (1)]) (results_world Try.results30 _ _ C2 53 _ (0, 0) _ _ rfl rfl HK.out.b1 Try.underlying53 rfl info_w) rfl ?_
  refine ⟨⟨t, m, y, z, p, d, o, g, u, n, sa2, sc2, sl, ga2, gc2, gl, da2, dc2, dl, ua2, uc2, us, na2, nc2, ns⟩, 1, by simp [Wv.v], LwAt.base HK.out.fin.1 (Nat.le_of_eq HCC.out.symm), HK.out.k.grown (World.grownBy.refl _ _) (Nat.le_of_eq HCC.out.symm), ?_⟩
  unfold Wv.le
  dsimp only
  exact ⟨by omega, by omega, by omega, by omega, by omega, hum2, hnm2⟩

end Go.Proofs.Ytedhemllgpbheaa

