/- Vd -/
import Derived.Test.YtedhemllgpbheaaQ35
import Derived.Test.YtedhemllgpbheaaQ36
import Derived.Test.YtedhemllgpbheaaQ37
import Derived.Test.YtedhemllgpbheaaQ38
namespace Go.Proofs.Ytedhemllgpbheaa
open Go.RowKit
open P7 (Pk PkAt pksV PcsP prefL)

open Classical in
theorem wd_yes {t u n : Int} {r : Rn} {sl : List Rg} {gl : List Pk} {dl : List Rg} {ul nl : List No} (h : wdP t r u n sl gl dl ul nl) : wdOk t r u n sl gl dl ul nl = true := decide_eq_true h
open Classical in
theorem wd_no {t u n : Int} {r : Rn} {sl : List Rg} {gl : List Pk} {dl : List Rg} {ul nl : List No} (h : ¬ wdP t r u n sl gl dl ul nl) : wdOk t r u n sl gl dl ul nl = false := decide_eq_false h
theorem do_S (t m y z p d o g u n : Int) (sa : Option Addr) (sc : Nat) (sl : List Rg) (ga : Option Addr) (gc : Nat) (gl : List Pk) (da : Option Addr) (dc : Nat) (dl : List Rg) (ua : Option Addr) (uc : Nat) (ul : List Nt) (na : Option Addr) (nc : Nat) (nl : List Nt) (sk sat : Int) (sd : Bool) (w : World) (X : List Nat) (h : LrAt w sa sc sl ga gc gl da dc dl ua uc ul na nc nl) (hX : ∀ b ∈ X, b < w.heap.size) (hw : wdP t ⟨m, y, z, p, d, o, g⟩ u n sl gl dl (ul.map Nt.o) (nl.map Nt.o)) :
    Calls Try.prog 30 #[.agg #[.int .i64 t, .int .i64 m, .int .i64 y, .int .i64 z, .int .i64 p, .int .i64 d, .int .i64 o, .int .i64 g, .int .i64 u, .int .i64 n, .slice sa sl.length sc, .slice ga gl.length gc, .slice da dl.length dc, .slice ua ul.length uc, .slice na nl.length nc], .agg #[.int .i64 sk, .int .i64 sat, .bool sd]] w (DoPost w X) := by
  by_cases h1 : sk = 1
  · subst h1; exact do_send t m y z p d o g u n sa sc sl ga gc gl da dc dl ua uc ul na nc nl sat sd w X h hX hw
  by_cases h2 : sk = 2
  · subst h2
    by_cases hin : 0 ≤ sat ∧ sat < (dl.length : Int)
    · obtain ⟨k, rfl⟩ : ∃ k : Nat, sat = k := ⟨sat.toNat, by omega⟩
      cases sd
      · exact do_downF t m y z p d o g u n sa sc sl ga gc gl da dc dl ua uc ul na nc nl k w X h hX hw (by omega)
      · exact do_downT t m y z p d o g u n sa sc sl ga gc gl da dc dl ua uc ul na nc nl k w X h hX hw (by omega)
    · exact do_downN t m y z p d o g u n sa sc sl ga gc gl da dc dl ua uc ul na nc nl sat sd w X h hX hw hin
  by_cases h3 : sk = 3
  · subst h3
    by_cases hin : 0 ≤ sat ∧ sat < (ul.length : Int)
    · obtain ⟨k, rfl⟩ : ∃ k : Nat, sat = k := ⟨sat.toNat, by omega⟩
      cases sd
      · exact do_upF t m y z p d o g u n sa sc sl ga gc gl da dc dl ua uc ul na nc nl k w X h hX hw (by omega)
      · exact do_upT t m y z p d o g u n sa sc sl ga gc gl da dc dl ua uc ul na nc nl k w X h hX hw (by omega)
    · exact do_upN t m y z p d o g u n sa sc sl ga gc gl da dc dl ua uc ul na nc nl sat sd w X h hX hw hin
  by_cases h4 : sk = 4
  · subst h4; exact do_late t m y z p d o g u n sa sc sl ga gc gl da dc dl ua uc ul na nc nl sat sd w X h hX hw
  exact do_else t m y z p d o g u n sa sc sl ga gc gl da dc dl ua uc ul na nc nl sk sat sd w X h hX hw h1 h2 h3 h4

set_option maxRecDepth 100000 in
set_option maxHeartbeats 8000000 in
theorem wdo_S (t m y z p d o g u n : Int) (sa : Option Addr) (sc : Nat) (sl : List Rg) (ga : Option Addr) (gc : Nat) (gl : List Pk) (da : Option Addr) (dc : Nat) (dl : List Rg) (ua : Option Addr) (uc : Nat) (ul : List Nt) (na : Option Addr) (nc : Nat) (nl : List Nt) (sk sat : Int) (sd : Bool) (w : World) (X : List Nat) (h : LrAt w sa sc sl ga gc gl da dc dl ua uc ul na nc nl) (hX : ∀ b ∈ X, b < w.heap.size) (hd : dl.length ≤ 1000) (hu : ul.length ≤ 1000) (hn : nl.length ≤ 1000) (hsl : sl.length ≤ 1000) (hgl : gl.length ≤ 1000) (hum : ∀ x ∈ ul, x.l.length ≤ 3) (hnm : ∀ x ∈ nl, x.l.length ≤ 3) :
    Calls Try.prog 23 #[.agg #[.int .i64 t, .int .i64 m, .int .i64 y, .int .i64 z, .int .i64 p, .int .i64 d, .int .i64 o, .int .i64 g, .int .i64 u, .int .i64 n, .slice sa sl.length sc, .slice ga gl.length gc, .slice da dl.length dc, .slice ua ul.length uc, .slice na nl.length nc], .agg #[.int .i64 sk, .int .i64 sat, .bool sd]] w (DoPost w X) := by
  have HR := Lib.hid h
  obtain ⟨C0, hC0⟩ : ∃ C, C = w.heap.size := ⟨_, rfl⟩
  obtain ⟨C1, hC1⟩ : ∃ C, C = w.heap.size + 1 := ⟨_, rfl⟩
  obtain ⟨C2, hC2⟩ : ∃ C, C = w.heap.size + 1 + 1 := ⟨_, rfl⟩
  have k := ((((Sw.start (LwAt.nil w w.heap.size X hX) (Nat.le_refl _)).new 53 #[.int .i64 t, .int .i64 m, .int .i64 y, .int .i64 z, .int .i64 p, .int .i64 d, .int .i64 o, .int .i64 g, .int .i64 u, .int .i64 n, .slice sa sl.length sc, .slice ga gl.length gc, .slice da dl.length dc, .slice ua ul.length uc, .slice na nl.length nc]).new 59 #[.int .i64 sk, .int .i64 sat, .bool sd]).new 53 #[.int .i64 0, .int .i64 0, .int .i64 0, .int .i64 0, .int .i64 0, .int .i64 0, .int .i64 0, .int .i64 0, .int .i64 0, .int .i64 0, .slice none 0 0, .slice none 0 0, .slice none 0 0, .slice none 0 0, .slice none 0 0])
  simp only [World.size_alloc] at k
  rw [← hC2, ← hC1, ← hC0] at k
  have H0 := Lib.hid k
  clear k h hX
  go_enter Try.func23, Try.ntmps23
  go_upto_region 1 with fail
  try simp only [World.size_alloc]
  try rw [← hC2]
  try rw [← hC1]
  try rw [← hC0]
  have HCC := Lib.hid hC0
  clear hC0 hC1 hC2
  generalize (((w.alloc (.cells #[.int .i64 t, .int .i64 m, .int .i64 y, .int .i64 z, .int .i64 p, .int .i64 d, .int .i64 o, .int .i64 g, .int .i64 u, .int .i64 n, .slice sa sl.length sc, .slice ga gl.length gc, .slice da dl.length dc, .slice ua ul.length uc, .slice na nl.length nc] 53)).alloc (.cells #[.int .i64 sk, .int .i64 sat, .bool sd] 59)).alloc (.cells #[.int .i64 0, .int .i64 0, .int .i64 0, .int .i64 0, .int .i64 0, .int .i64 0, .int .i64 0, .int .i64 0, .int .i64 0, .int .i64 0, .slice none 0 0, .slice none 0 0, .slice none 0 0, .slice none 0 0, .slice none 0 0] 53)) = W0 at *
  go_wp2_with (refine wpList_load_row rfl 53 _ rfl C0 rfl 53 _ (0, 0) _ H0.out.b2 Try.underlying53 rfl info_w ?_)
  refine (wd_S t m y z p d o g u n sa sc sl ga gc gl da dc dl ua uc ul na nc nl W0 (HR.out.kept (H0.out.k.grown (World.grownBy.refl _ _) (Nat.le_of_eq HCC.out.symm))).wd (by omega) (by omega) (by omega) (by omega) (by omega) (fun x hx => by have := hnm x hx; omega) (fun x hx => by have := hum x hx; omega)).mono ?_
  rintro e w1 ⟨rfl, hg⟩
  have H1 := Lib.hid (H0.out.keep hg)
  clear hg H0
  by_cases hw : wdP t ⟨m, y, z, p, d, o, g⟩ u n sl gl dl (ul.map Nt.o) (nl.map Nt.o)
  · have hb : wdOk t ⟨m, y, z, p, d, o, g⟩ u n sl gl dl (ul.map Nt.o) (nl.map Nt.o) = true := wd_yes hw
    rw [hb]
    clear hb
    have HWP := Lib.hid hw
    clear hw
    go_upto_region 3 with fail
    have es0 : (w1).cell? ⟨C1, 0, none⟩ = some (.int .i64 sk) := H1.out.b1.c 0 rfl
    have es1 : (w1).cell? ⟨C1, 1, none⟩ = some (.int .i64 sat) := H1.out.b1.c 1 rfl
    have es2 : (w1).cell? ⟨C1, 2, none⟩ = some (.bool sd) := H1.out.b1.c 2 rfl
    go_wp2_with (refine wpList_load_row rfl 53 _ rfl C0 rfl 53 _ (0, 0) _ H1.out.b2 Try.underlying53 rfl info_w ?_)
    refine (do_S t m y z p d o g u n sa sc sl ga gc gl da dc dl ua uc ul na nc nl sk sat sd w1 _ (HR.out.kept (H1.out.k.grown (World.grownBy.refl _ _) (Nat.le_of_eq HCC.out.symm))) H1.out.l.xl HWP.out).mono ?_
    rintro e w2 ⟨⟨t3, m3, y3, z3, p3, d3, o3, g3, u3, n3, sa3, sc3, sl3, ga3, gc3, gl3, da3, dc3, dl3, ua3, uc3, ul3, na3, nc3, nl3⟩, k3, rfl, ha, hg, hle⟩
    have H2 := Lib.hid (H1.out.anew ha hg)
    have HLE := Lib.hid hle
    clear ha hg hle H1 es0 es1 es2
    dsimp only [Wv.v]
    dsimp only [Wv.le] at HLE
    have HK := Lib.hid (H2.out.row0 #[.int .i64 t3, .int .i64 m3, .int .i64 y3, .int .i64 z3, .int .i64 p3, .int .i64 d3, .int .i64 o3, .int .i64 g3, .int .i64 u3, .int .i64 n3, .slice sa3 sl3.length sc3, .slice ga3 gl3.length gc3, .slice da3 dl3.length dc3, .slice ua3 ul3.length uc3, .slice na3 nl3.length nc3])
    go_wp2_with (first | (refine wpList_store_row rfl 53 _ _ rfl C2 #[.int .i64 t3, .int .i64 m3, .int .i64 y3, .int .i64 z3, .int .i64 p3, .int .i64 d3, .int .i64 o3, .int .i64 g3, .int .i64 u3, .int .i64 n3, .slice sa3 sl3.length sc3, .slice ga3 gl3.length gc3, .slice da3 dl3.length dc3, .slice ua3 ul3.length uc3, .slice na3 nl3.length nc3] rfl rfl 53 _ H2.out.b0 info_w rfl (by simp [Value.oneCell']) ?_))
    generalize (w2.setRow C2 #[.int .i64 t3, .int .i64 m3, .int .i64 y3, .int .i64 z3, .int .i64 p3, .int .i64 d3, .int .i64 o3, .int .i64 g3, .int .i64 u3, .int .i64 n3, .slice sa3 sl3.length sc3, .slice ga3 gl3.length gc3, .slice da3 dl3.length dc3, .slice ua3 ul3.length uc3, .slice na3 nl3.length nc3]) = wz at *
    refine bodyPost_ret (v := .tuple #[.agg #[.int .i64 t3, .int .i64 m3, .int .i64 y3, .int .i64 z3, .int .i64 p3, .int .i64 d3, .int .i64 o3, .int .i64 g3, .int .i64 u3, .int .i64 n3, .slice sa3 sl3.length sc3, .slice ga3 gl3.length gc3, .slice da3 dl3.length dc3, .slice ua3 ul3.length uc3, .slice na3 nl3.length nc3], .int .i64 (k3)]) (results_world Try.results23 _ _ C2 53 _ (0, 0) _ _ rfl rfl HK.out.b0 Try.underlying53 rfl info_w) rfl ?_
    refine ⟨⟨t3, m3, y3, z3, p3, d3, o3, g3, u3, n3, sa3, sc3, sl3, ga3, gc3, gl3, da3, dc3, dl3, ua3, uc3, ul3, na3, nc3, nl3⟩, k3, by simp [Wv.v], LwAt.base HK.out.fin.1 (Nat.le_of_eq HCC.out.symm), HK.out.k.grown (World.grownBy.refl _ _) (Nat.le_of_eq HCC.out.symm), ?_⟩
    unfold Wv.le
    dsimp only
    exact ⟨HLE.out.1, HLE.out.2.1, HLE.out.2.2.1, HLE.out.2.2.2.1, HLE.out.2.2.2.2.1, HLE.out.2.2.2.2.2.1, HLE.out.2.2.2.2.2.2⟩
  · have hb : wdOk t ⟨m, y, z, p, d, o, g⟩ u n sl gl dl (ul.map Nt.o) (nl.map Nt.o) = false := wd_no hw
    rw [hb]
    clear hb hw
    go_upto_region 2 with fail
    have HK := Lib.hid (H1.out.row0 #[.int .i64 0, .int .i64 0, .int .i64 0, .int .i64 0, .int .i64 0, .int .i64 0, .int .i64 0, .int .i64 0, .int .i64 0, .int .i64 0, .slice none 0 0, .slice none 0 0, .slice none 0 0, .slice none 0 0, .slice none 0 0])
    go_wp2_with (first | (refine wpList_store_row rfl 53 _ _ rfl C2 #[.int .i64 0, .int .i64 0, .int .i64 0, .int .i64 0, .int .i64 0, .int .i64 0, .int .i64 0, .int .i64 0, .int .i64 0, .int .i64 0, .slice none 0 0, .slice none 0 0, .slice none 0 0, .slice none 0 0, .slice none 0 0] rfl rfl 53 _ H1.out.b0 info_w rfl (by simp [Value.oneCell']) ?_))
    generalize (w1.setRow C2 #[.int .i64 0, .int .i64 0, .int .i64 0, .int .i64 0, .int .i64 0, .int .i64 0, .int .i64 0, .int .i64 0, .int .i64 0, .int .i64 0, .slice none 0 0, .slice none 0 0, .slice none 0 0, .slice none 0 0, .slice none 0 0]) = wz at *
    refine bodyPost_ret (v := .tuple #[.agg #[.int .i64 0, .int .i64 0, .int .i64 0, .int .i64 0, .int .i64 0, .int .i64 0, .int .i64 0, .int .i64 0, .int .i64 0, .int .i64 0, .slice none 0 0, .slice none 0 0, .slice none 0 0, .slice none 0 0, .slice none 0 0], .int .i64 (1)]) (results_world Try.results23 _ _ C2 53 _ (0, 0) _ _ rfl rfl HK.out.b0 Try.underlying53 rfl info_w) rfl ?_
    refine ⟨⟨0, 0, 0, 0, 0, 0, 0, 0, 0, 0, none, 0, [], none, 0, [], none, 0, [], none, 0, [], none, 0, []⟩, 1, by simp [Wv.v], LwAt.base HK.out.fin.1 (Nat.le_of_eq HCC.out.symm), HK.out.k.grown (World.grownBy.refl _ _) (Nat.le_of_eq HCC.out.symm), ?_⟩
    unfold Wv.le
    dsimp only
    exact ⟨by simp, by simp, by simp, by simp, by simp, by simp, by simp⟩
/-- A world's cells. -/
def Wv.c (V : Wv) : Array Value := #[.int .i64 V.t, .int .i64 V.m, .int .i64 V.y, .int .i64 V.z, .int .i64 V.p, .int .i64 V.d, .int .i64 V.o, .int .i64 V.g, .int .i64 V.u, .int .i64 V.n, .slice V.sa V.sl.length V.sc, .slice V.ga V.gl.length V.gc, .slice V.da V.dl.length V.dc, .slice V.ua V.ul.length V.uc, .slice V.na V.nl.length V.nc]
theorem wdo_V (V : Wv) (sk sat : Int) (sd : Bool) (w : World) (B : Nat) (X : List Nat) (h : V.At w B X) (hle : V.le 400 400 400) : Calls Try.prog 23 #[.agg V.c, .agg #[.int .i64 sk, .int .i64 sat, .bool sd]] w (DoPost w X) := by
  obtain ⟨h1, h2, h3, h4, h5, h6, h7⟩ := hle
  exact wdo_S V.t V.m V.y V.z V.p V.d V.o V.g V.u V.n V.sa V.sc V.sl V.ga V.gc V.gl V.da V.dc V.dl V.ua V.uc V.ul V.na V.nc V.nl sk sat sd w X (LwAt.r h) (LwAt.xl h) (by omega) (by omega) (by omega) (by omega) (by omega) h6 h7

end Go.Proofs.Ytedhemllgpbheaa

