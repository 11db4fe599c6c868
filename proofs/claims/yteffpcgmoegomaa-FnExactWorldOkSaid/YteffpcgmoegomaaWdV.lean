/- A world's size; whether two are the same: the laws' own helpers. -/
import Derived.Test.YteffpcgmoegomaaWdU
namespace Go.Proofs.Yteffpcgmoegomaa
open Go.RowKit
open P7 (Pk PkAt pcsOk prefL PcsP pcs_of pcs_yes pcs_not pc1 eq_packets)

def SmallW (sl : List Rg) (gl : List Pk) (dl : List Rg) (ul nl : List Nt) : Prop := sl.length ≤ 1048576 ∧ (gl.length ≤ 1048576 ∧ ∀ x ∈ gl, x.2.length ≤ 1048576) ∧ dl.length ≤ 1048576 ∧ (ul.length ≤ 1048576 ∧ ∀ x ∈ ul, x.l.length ≤ 1048576) ∧ (nl.length ≤ 1048576 ∧ ∀ x ∈ nl, x.l.length ≤ 1048576)

set_option maxRecDepth 100000 in
set_option maxHeartbeats 4000000 in
theorem sz_world (t m y z p d o g u n : Int) (sa : Option Addr) (sc : Nat) (sl : List Rg) (ga : Option Addr) (gc : Nat) (gl : List Pk) (da : Option Addr) (dc : Nat) (dl : List Rg) (ua : Option Addr) (uc : Nat) (ul : List Nt) (na : Option Addr) (nc : Nat) (nl : List Nt) (w : World) (h : WdAt w sa sl ga gl da dl ua ul na nl) (hsl : sl.length ≤ 9223372036854775807) (hgl : gl.length ≤ 9223372036854775807) (hgm : ∀ x ∈ gl, x.2.length ≤ 9223372036854775807) (hdl : dl.length ≤ 9223372036854775807) (hul : ul.length ≤ maxLen) (hum : ∀ x ∈ ul, x.l.length ≤ maxLen) (hnl : nl.length ≤ maxLen) (hnm : ∀ x ∈ nl, x.l.length ≤ maxLen) :
    Calls Try.prog 5 #[.agg #[.int .i64 t, .int .i64 m, .int .i64 y, .int .i64 z, .int .i64 p, .int .i64 d, .int .i64 o, .int .i64 g, .int .i64 u, .int .i64 n, .slice sa sl.length sc, .slice ga gl.length gc, .slice da dl.length dc, .slice ua ul.length uc, .slice na nl.length nc], .int .i64 1048576] w fun e w' => (∃ r : Int, e = .returned (.int .i64 r) ∧ (0 ≤ r → SmallW sl gl dl ul nl)) ∧ w.grownBy w' none := by
  have hg0 := World.grownBy_alloc w (.cells #[.int .i64 t, .int .i64 m, .int .i64 y, .int .i64 z, .int .i64 p, .int .i64 d, .int .i64 o, .int .i64 g, .int .i64 u, .int .i64 n, .slice sa sl.length sc, .slice ga gl.length gc, .slice da dl.length dc, .slice ua ul.length uc, .slice na nl.length nc] 30) none
  have H0 := Lib.hid (And.intro hg0 (And.intro (h.kept hg0) (Bx.new w 30 #[.int .i64 t, .int .i64 m, .int .i64 y, .int .i64 z, .int .i64 p, .int .i64 d, .int .i64 o, .int .i64 g, .int .i64 u, .int .i64 n, .slice sa sl.length sc, .slice ga gl.length gc, .slice da dl.length dc, .slice ua ul.length uc, .slice na nl.length nc])))
  clear h hg0
  go_enter Try.func5, Try.ntmps5
  go_upto_region 1 with fail
  generalize w.alloc (.cells #[.int .i64 t, .int .i64 m, .int .i64 y, .int .i64 z, .int .i64 p, .int .i64 d, .int .i64 o, .int .i64 g, .int .i64 u, .int .i64 n, .slice sa sl.length sc, .slice ga gl.length gc, .slice da dl.length dc, .slice ua ul.length uc, .slice na nl.length nc] 30) = w0 at *
  generalize w.heap.size = B at *
  have a8 := H0.out.2.2.c 8 rfl
  have a9 := H0.out.2.2.c 9 rfl
  have a10 := H0.out.2.2.c 10 rfl
  go_wp2_with fail
  refine (sz_boardK 1048576 (by decide) (by decide) u n sa sc sl _ hsl).mono ?_
  rintro e w1 ⟨⟨q0, rfl, hx⟩, hg⟩
  have H1 := Lib.hid (And.intro (grownBy_trans H0.out.1 hg) (And.intro (H0.out.2.1.kept hg) (H0.out.2.2.keep hg)))
  have F0 := Lib.hid hx
  clear hg hx a8 a9 a10
  by_cases nq0 : q0 < 0
  · go_wp2_with fail
    go_ret
    exact ⟨⟨_, rfl, fun h => absurd h (by decide)⟩, H1.out.1⟩
  · have mq0 : 0 ≤ q0 := by omega
    have k0 := (F0.out mq0).1
    have a11 := H1.out.2.2.c 11 rfl
    go_wp2_with fail
    refine (sz_piecesK q0 mq0 k0 ga gc gl _ H1.out.2.1.g hgl hgm).mono ?_
    rintro e w2 ⟨q1, rfl, hg, hx⟩
    have H2 := Lib.hid (And.intro (grownBy_trans H1.out.1 hg) (And.intro (H1.out.2.1.kept hg) (H1.out.2.2.keep hg)))
    have F1 := Lib.hid hx
    clear hg hx a11
    by_cases nq1 : q1 < 0
    · go_wp2_with fail
      go_ret
      exact ⟨⟨_, rfl, fun h => absurd h (by decide)⟩, H2.out.1⟩
    · have mq1 : 0 ≤ q1 := by omega
      have k1 := (F1.out mq1).1
      have a12 := H2.out.2.2.c 12 rfl
      go_wp2_with fail
      refine (sz_rangesG da dc dl q1 _ (by omega) mq1 k1).mono ?_
      rintro e w3 ⟨rfl, rfl⟩
      clear a12
      by_cases hd : (dl.length : Int) ≤ q1
      rotate_left
      · rw [if_neg hd]
        go_wp2_with fail
        go_ret
        exact ⟨⟨_, rfl, fun h => absurd h (by decide)⟩, H2.out.1⟩
      · rw [if_pos hd]
        obtain ⟨q2, hq2⟩ : ∃ q, q1 - (dl.length : Int) = q := ⟨_, rfl⟩
        have F2 := Lib.hid (show 0 ≤ q2 ∧ q2 ≤ 1048576 ∧ dl.length ≤ 1048576 by omega)
        have mq2 := F2.out.1
        have nq2 : ¬ q2 < 0 := by omega
        rw [hq2]
        clear hq2
        have a13 := H2.out.2.2.c 13 rfl
        go_wp2_with fail
        refine (sz_notesK q2 mq2 F2.out.2.1 ua uc ul _ H2.out.2.1.u hul hum).mono ?_
        rintro e w4 ⟨⟨q3, rfl, hx⟩, hg⟩
        have H4 := Lib.hid (And.intro (grownBy_trans H2.out.1 hg) (And.intro (H2.out.2.1.kept hg) (H2.out.2.2.keep hg)))
        have F3 := Lib.hid hx
        clear hg hx a13
        by_cases nq3 : q3 < 0
        · go_wp2_with fail
          go_ret
          exact ⟨⟨_, rfl, fun h => absurd h (by decide)⟩, H4.out.1⟩
        · have mq3 : 0 ≤ q3 := by omega
          have k3 := (F3.out mq3).1
          have a14 := H4.out.2.2.c 14 rfl
          go_wp2_with fail
          refine (sz_notesK q3 mq3 k3 na nc nl _ H4.out.2.1.n hnl hnm).mono ?_
          rintro e w5 ⟨⟨q4, rfl, hx⟩, hg⟩
          have H5 := Lib.hid (And.intro (grownBy_trans H4.out.1 hg) (And.intro (H4.out.2.1.kept hg) (H4.out.2.2.keep hg)))
          have F4 := Lib.hid hx
          clear hg hx a14
          by_cases nq4 : q4 < 0
          · go_wp2_with fail
            go_ret
            exact ⟨⟨_, rfl, fun h => absurd h (by decide)⟩, H5.out.1⟩
          · have mq4 : 0 ≤ q4 := by omega
            have F5 := Lib.hid (show SmallW sl gl dl ul nl from ⟨(F0.out mq0).2, (F1.out mq1).2, F2.out.2.2, (F3.out mq3).2, (F4.out mq4).2⟩)
            go_wp2_with fail
            go_ret
            exact ⟨⟨_, rfl, fun _ => F5.out⟩, H5.out.1⟩

theorem two_box (w : World) (x y : Array Value) (T : TypeId) : w.grownBy ((w.alloc (.cells x T)).alloc (.cells y T)) none ∧ Bx ((w.alloc (.cells x T)).alloc (.cells y T)) w.heap.size T x ∧ Bx ((w.alloc (.cells x T)).alloc (.cells y T)) (w.heap.size + 1) T y := by
  refine ⟨gA (World.grownBy_alloc _ _ _) _, (Bx.new _ _ _).alloc _, ?_⟩
  have h := Bx.new (w.alloc (.cells x T)) T y
  simpa only [World.size_alloc] using h

set_option maxRecDepth 100000 in
set_option maxHeartbeats 4000000 in
theorem eq_world (t m y z p d o g u n : Int) (sa : Option Addr) (sc : Nat) (sl : List Rg) (ga : Option Addr) (gc : Nat) (gl : List Pk) (da : Option Addr) (dc : Nat) (dl : List Rg) (ua : Option Addr) (uc : Nat) (ul : List Nt) (na : Option Addr) (nc : Nat) (nl : List Nt) (sa2 : Option Addr) (sc2 : Nat) (ga2 : Option Addr) (gc2 : Nat) (da2 : Option Addr) (dc2 : Nat) (ua2 : Option Addr) (uc2 : Nat) (us : List Nt) (na2 : Option Addr) (nc2 : Nat) (ns : List Nt) (w : World) (h : WdAt w sa sl ga gl da dl ua ul na nl) (k : WdAt w sa2 sl ga2 gl da2 dl ua2 us na2 ns) (hou : ul.map Nt.o = us.map Nt.o) (hon : nl.map Nt.o = ns.map Nt.o) (hlu : us.length = ul.length) (hln : ns.length = nl.length) (hsl : sl.length ≤ 1048576) (hgl : gl.length ≤ 1048576) (hdl : dl.length ≤ 1048576) (hul : ul.length ≤ 1048576) (hnl : nl.length ≤ 1048576) (hum : ∀ x ∈ ul, x.l.length ≤ 1048576) (hnm : ∀ x ∈ nl, x.l.length ≤ 1048576) :
    Calls Try.prog 9 #[.agg #[.int .i64 t, .int .i64 m, .int .i64 y, .int .i64 z, .int .i64 p, .int .i64 d, .int .i64 o, .int .i64 g, .int .i64 u, .int .i64 n, .slice sa sl.length sc, .slice ga gl.length gc, .slice da dl.length dc, .slice ua ul.length uc, .slice na nl.length nc], .agg #[.int .i64 t, .int .i64 m, .int .i64 y, .int .i64 z, .int .i64 p, .int .i64 d, .int .i64 o, .int .i64 g, .int .i64 u, .int .i64 n, .slice sa2 sl.length sc2, .slice ga2 gl.length gc2, .slice da2 dl.length dc2, .slice ua2 us.length uc2, .slice na2 ns.length nc2]] w fun e w' => e = .returned (.bool true) ∧ w.grownBy w' none := by
  rw [hlu, hln]
  obtain ⟨t1, t2, t3⟩ := two_box w #[.int .i64 t, .int .i64 m, .int .i64 y, .int .i64 z, .int .i64 p, .int .i64 d, .int .i64 o, .int .i64 g, .int .i64 u, .int .i64 n, .slice sa sl.length sc, .slice ga gl.length gc, .slice da dl.length dc, .slice ua ul.length uc, .slice na nl.length nc] #[.int .i64 t, .int .i64 m, .int .i64 y, .int .i64 z, .int .i64 p, .int .i64 d, .int .i64 o, .int .i64 g, .int .i64 u, .int .i64 n, .slice sa2 sl.length sc2, .slice ga2 gl.length gc2, .slice da2 dl.length dc2, .slice ua2 ul.length uc2, .slice na2 nl.length nc2] 40
  have H0 := Lib.hid (And.intro t1 (And.intro (h.kept t1) (And.intro (k.kept t1) (And.intro t2 t3))))
  clear h k t1 t2 t3 hlu hln
  go_enter Try.func9, Try.ntmps9
  go_upto_region 1 with fail
  generalize ((w.alloc (.cells #[.int .i64 t, .int .i64 m, .int .i64 y, .int .i64 z, .int .i64 p, .int .i64 d, .int .i64 o, .int .i64 g, .int .i64 u, .int .i64 n, .slice sa sl.length sc, .slice ga gl.length gc, .slice da dl.length dc, .slice ua ul.length uc, .slice na nl.length nc] 40)).alloc (.cells #[.int .i64 t, .int .i64 m, .int .i64 y, .int .i64 z, .int .i64 p, .int .i64 d, .int .i64 o, .int .i64 g, .int .i64 u, .int .i64 n, .slice sa2 sl.length sc2, .slice ga2 gl.length gc2, .slice da2 dl.length dc2, .slice ua2 ul.length uc2, .slice na2 nl.length nc2] 40)) = w0 at *
  have a0 := H0.out.2.2.2.1.c 0 rfl
  have b0 := H0.out.2.2.2.2.c 0 rfl
  have a1 := H0.out.2.2.2.1.c 1 rfl
  have a2 := H0.out.2.2.2.1.c 2 rfl
  have a3 := H0.out.2.2.2.1.c 3 rfl
  have a4 := H0.out.2.2.2.1.c 4 rfl
  have a5 := H0.out.2.2.2.1.c 5 rfl
  have a6 := H0.out.2.2.2.1.c 6 rfl
  have a7 := H0.out.2.2.2.1.c 7 rfl
  have b1 := H0.out.2.2.2.2.c 1 rfl
  have b2 := H0.out.2.2.2.2.c 2 rfl
  have b3 := H0.out.2.2.2.2.c 3 rfl
  have b4 := H0.out.2.2.2.2.c 4 rfl
  have b5 := H0.out.2.2.2.2.c 5 rfl
  have b6 := H0.out.2.2.2.2.c 6 rfl
  have b7 := H0.out.2.2.2.2.c 7 rfl
  go_wp2_with fail
  refine (rn_eq m y z p d o g _).mono ?_
  rintro e w1 ⟨rfl, hg⟩
  have H1 := Lib.hid (And.intro (grownBy_trans H0.out.1 hg) (And.intro (H0.out.2.1.kept hg) (And.intro (H0.out.2.2.1.kept hg) (And.intro (H0.out.2.2.2.1.keep hg) (H0.out.2.2.2.2.keep hg)))))
  clear hg a1 b1 a2 b2 a3 b3 a4 b4 a5 b5 a6 b6 a7 b7
  clear a0 b0
  have a8 := H1.out.2.2.2.1.c 8 rfl
  have a9 := H1.out.2.2.2.1.c 9 rfl
  have a10 := H1.out.2.2.2.1.c 10 rfl
  have b8 := H1.out.2.2.2.2.c 8 rfl
  have b9 := H1.out.2.2.2.2.c 9 rfl
  have b10 := H1.out.2.2.2.2.c 10 rfl
  go_wp2_with fail
  refine (eq_board u n sa sa2 sc sc2 sl _ H1.out.2.1.s H1.out.2.2.1.s hsl).mono ?_
  rintro e w2 ⟨rfl, hg⟩
  have H2 := Lib.hid (And.intro (grownBy_trans H1.out.1 hg) (And.intro (H1.out.2.1.kept hg) (And.intro (H1.out.2.2.1.kept hg) (And.intro (H1.out.2.2.2.1.keep hg) (H1.out.2.2.2.2.keep hg)))))
  clear hg a8 b8 a9 b9 a10 b10
  have a11 := H2.out.2.2.2.1.c 11 rfl
  have b11 := H2.out.2.2.2.2.c 11 rfl
  go_wp2_with fail
  refine (eq_packets ga ga2 gc gc2 gl _ H2.out.2.1.g H2.out.2.2.1.g hgl).mono ?_
  rintro e w3 ⟨rfl, hg⟩
  have H3 := Lib.hid (And.intro (grownBy_trans H2.out.1 hg) (And.intro (H2.out.2.1.kept hg) (And.intro (H2.out.2.2.1.kept hg) (And.intro (H2.out.2.2.2.1.keep hg) (H2.out.2.2.2.2.keep hg)))))
  clear hg a11 b11
  have a12 := H3.out.2.2.2.1.c 12 rfl
  have b12 := H3.out.2.2.2.2.c 12 rfl
  go_wp2_with fail
  refine (eq_ranges da da2 dc dc2 dl _ H3.out.2.1.d H3.out.2.2.1.d hdl).mono ?_
  rintro e w4 ⟨rfl, hg⟩
  have H4 := Lib.hid (And.intro (grownBy_trans H3.out.1 hg) (And.intro (H3.out.2.1.kept hg) (And.intro (H3.out.2.2.1.kept hg) (And.intro (H3.out.2.2.2.1.keep hg) (H3.out.2.2.2.2.keep hg)))))
  clear hg a12 b12
  have a13 := H4.out.2.2.2.1.c 13 rfl
  have b13 := H4.out.2.2.2.2.c 13 rfl
  go_wp2_with fail
  refine (eq_notes ua ua2 uc uc2 ul us _ H4.out.2.1.u H4.out.2.2.1.u hou hul hum).mono ?_
  rintro e w5 ⟨rfl, hg⟩
  have H5 := Lib.hid (And.intro (grownBy_trans H4.out.1 hg) (And.intro (H4.out.2.1.kept hg) (And.intro (H4.out.2.2.1.kept hg) (And.intro (H4.out.2.2.2.1.keep hg) (H4.out.2.2.2.2.keep hg)))))
  clear hg a13 b13
  have a14 := H5.out.2.2.2.1.c 14 rfl
  have b14 := H5.out.2.2.2.2.c 14 rfl
  go_wp2_with fail
  refine (eq_notes na na2 nc nc2 nl ns _ H5.out.2.1.n H5.out.2.2.1.n hon hnl hnm).mono ?_
  rintro e w6 ⟨rfl, hg⟩
  have H6 := Lib.hid (And.intro (grownBy_trans H5.out.1 hg) (And.intro (H5.out.2.1.kept hg) (And.intro (H5.out.2.2.1.kept hg) (And.intro (H5.out.2.2.2.1.keep hg) (H5.out.2.2.2.2.keep hg)))))
  clear hg a14 b14
  go_wp2_with fail
  go_ret
  exact ⟨rfl, H6.out.1⟩

end Go.Proofs.Yteffpcgmoegomaa
