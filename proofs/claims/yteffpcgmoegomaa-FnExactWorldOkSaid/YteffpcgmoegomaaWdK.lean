/- The program's tests of a world: what is on its way down and up, all of it. -/
import Derived.Test.YteffpcgmoegomaaWdJ
namespace Go.Proofs.Yteffpcgmoegomaa
open Go.RowKit
open P7 (Pk PkAt pcsOk prefL PcsP pcs_of pcs_yes pcs_not pc1)

def DnRel (w : World) (n m : Int) (dl : List Rg) (i : Value) (wr : World) : Prop := ∃ j : Nat, j ≤ dl.length ∧ i = .int .i64 j ∧ w.grownBy wr none ∧ ∀ x ∈ dl.take j, downW n m x

open Classical in
set_option maxRecDepth 100000 in
set_option maxHeartbeats 2000000 in
theorem down_I (t m y z p d o g u n : Int) (sa : Option Addr) (sc : Nat) (sl : List Rg) (ga : Option Addr) (gc : Nat) (gl : List Pk) (da : Option Addr) (dc : Nat) (dl : List Rg) (ua : Option Addr) (uc : Nat) (ul : List Nt) (na : Option Addr) (nc : Nat) (nl : List Nt) (w : World) (h : WdAt w sa sl ga gl da dl ua ul na nl) (hn : n ≤ 3000) (hdl : dl.length ≤ 1048576) : Calls Try.prog 39 #[.agg #[.int .i64 t, .int .i64 m, .int .i64 y, .int .i64 z, .int .i64 p, .int .i64 d, .int .i64 o, .int .i64 g, .int .i64 u, .int .i64 n, .slice sa sl.length sc, .slice ga gl.length gc, .slice da dl.length dc, .slice ua ul.length uc, .slice na nl.length nc]] w fun e w' => e = .returned (.bool (decide (downsW n m dl))) ∧ w.grownBy w' none := by
  have hg0 := World.grownBy_alloc w (.cells #[.int .i64 t, .int .i64 m, .int .i64 y, .int .i64 z, .int .i64 p, .int .i64 d, .int .i64 o, .int .i64 g, .int .i64 u, .int .i64 n, .slice sa sl.length sc, .slice ga gl.length gc, .slice da dl.length dc, .slice ua ul.length uc, .slice na nl.length nc] 40) none
  have HA := Lib.hid (And.intro (h.kept hg0) (And.intro hg0 (Bx.new w 40 #[.int .i64 t, .int .i64 m, .int .i64 y, .int .i64 z, .int .i64 p, .int .i64 d, .int .i64 o, .int .i64 g, .int .i64 u, .int .i64 n, .slice sa sl.length sc, .slice ga gl.length gc, .slice da dl.length dc, .slice ua ul.length uc, .slice na nl.length nc])))
  clear h hg0
  go_enter Try.func39, Try.ntmps39
  go_upto_region 1 with fail
  generalize w.alloc (.cells #[.int .i64 t, .int .i64 m, .int .i64 y, .int .i64 z, .int .i64 p, .int .i64 d, .int .i64 o, .int .i64 g, .int .i64 u, .int .i64 n, .slice sa sl.length sc, .slice ga gl.length gc, .slice da dl.length dc, .slice ua ul.length uc, .slice na nl.length nc] 40) = w1 at *
  generalize w.heap.size = B at *
  have p12 := HA.out.2.2.c 12 rfl
  go_wp2_with fail
  clear p12
  go_loopw [8] (fun i wr => DnRel w1 n m dl i wr) (fun i _ => dl.length - (intOf i).toNat)
  case atStart => exact ⟨0, Nat.zero_le _, rfl, World.grownBy.refl _ _, by simp⟩
  case round =>
    obtain ⟨j, hj, rfl, hg, hin⟩ := hrel
    have HS := Lib.hid (And.intro hg hin)
    clear hg hin
    by_cases hlt : j < dl.length
    · obtain ⟨b1, off1, rfl, c0, c1⟩ := rg_cells (HA.out.1.d.kept HS.out.1) hlt
      have HN := Lib.hid (fun h => all_more (P := fun x => downW n m x) dl j hlt HS.out.2 h)
      have HM := Lib.hid (fun h => all_not (P := fun x => downW n m x) dl j hlt h)
      generalize dl[j] = x at *
      obtain ⟨x1, x2⟩ := x
      dsimp only at c0 c1
      have hlt' : (j : Int) < (dl.length : Int) := by omega
      have hj0 : (0 : Int) ≤ (j : Int) := by omega
      have gX := World.grownBy_alloc wr (.cells #[.int .i64 x1, .int .i64 x2] 64) none
      have H3 := Lib.hid (And.intro (grownBy_trans HS.out.1 gX) (Bx.new wr 64 #[.int .i64 x1, .int .i64 x2]))
      clear gX
      go_upto_region 4 with fail
      clear c0 c1
      generalize wr.alloc (.cells #[.int .i64 x1, .int .i64 x2] 64) = w3 at *
      generalize wr.heap.size = P at *
      have c0 := H3.out.2.c 0 rfl
      have c1 := H3.out.2.c 1 rfl
      have c2 := (HA.out.2.2.keep H3.out.1).c 9 rfl
      have c3 := (HA.out.2.2.keep H3.out.1).c 1 rfl
      by_cases g1 : x1 < 0
      · have HQ := Lib.hid (HM.out (fun h => by have h1 := h.1; dsimp only at h1; omega))
        go_wp2_with fail
        go_ret
        exact ⟨ret_no (fun h => HQ.out h.1), grownBy_trans HA.out.2.1 H3.out.1⟩
      · by_cases g2 : x2 ≤ x1
        · have HQ := Lib.hid (HM.out (fun h => by have h1 := h.2.1; dsimp only at h1; omega))
          go_wp2_with fail
          go_ret
          exact ⟨ret_no (fun h => HQ.out h.1), grownBy_trans HA.out.2.1 H3.out.1⟩
        · by_cases g3 : n < x2
          · have HQ := Lib.hid (HM.out (fun h => by have h1 := h.2.2.1; dsimp only at h1; omega))
            go_wp2_with fail
            go_ret
            exact ⟨ret_no (fun h => HQ.out h.1), grownBy_trans HA.out.2.1 H3.out.1⟩
          · have hw : IntKind.i64.wrap (x2 - x1) = x2 - x1 := IntWalk.i64_in _ (by omega)
            by_cases g4 : m < x2 - x1
            · have HQ := Lib.hid (HM.out (fun h => by have h1 := h.2.2.2; dsimp only at h1; omega))
              go_wp2_with fail
              go_ret
              exact ⟨ret_no (fun h => HQ.out h.1), grownBy_trans HA.out.2.1 H3.out.1⟩
            · have HQ := Lib.hid (HN.out ⟨by dsimp only; omega, by dsimp only; omega, by dsimp only; omega, by dsimp only; omega⟩)
              go_wp2_with fail
              go_roundw
              case rel => exact ⟨j + 1, hlt, by go_num, H3.out.1, HQ.out⟩
              case measure => simp [intOf]; omega
    · obtain rfl : j = dl.length := by omega
      have HQ := Lib.hid (show ∀ x ∈ dl, downW n m x by have h2 := HS.out.2; rw [List.take_length] at h2; exact h2)
      have p12 := (HA.out.2.2.keep HS.out.1).c 12 rfl
      by_cases h60 : dl.length ≤ 60
      · have h60' : (dl.length : Int) ≤ 60 := by omega
        go_wp2_with fail
        go_ret
        exact ⟨ret_yes ⟨HQ.out, h60⟩, grownBy_trans HA.out.2.1 HS.out.1⟩
      · have h60' : ¬ (dl.length : Int) ≤ 60 := by omega
        go_wp2_with fail
        go_ret
        exact ⟨ret_no (fun h => h60 h.2), grownBy_trans HA.out.2.1 HS.out.1⟩

def UpRel (w : World) (gl : List Pk) (ul : List Nt) (i : Value) (wr : World) : Prop := ∃ j : Nat, j ≤ ul.length ∧ i = .int .i64 j ∧ w.grownBy wr none ∧ ∀ x ∈ ul.take j, upW gl x.o
theorem ups_yes {gl : List Pk} {ul : List Nt} (h60 : ul.length ≤ 60) (h : ∀ x ∈ ul, upW gl x.o) : upsW gl (ul.map Nt.o) := ⟨by simpa using h60, by simpa using h⟩
theorem ups_no {gl : List Pk} {ul : List Nt} (h : ¬ ∀ x ∈ ul, upW gl x.o) : ¬ upsW gl (ul.map Nt.o) := fun k => h (by simpa using k.2)

open Classical in
set_option maxRecDepth 100000 in
set_option maxHeartbeats 4000000 in
theorem up_I (t m y z p d o g u n : Int) (sa : Option Addr) (sc : Nat) (sl : List Rg) (ga : Option Addr) (gc : Nat) (gl : List Pk) (da : Option Addr) (dc : Nat) (dl : List Rg) (ua : Option Addr) (uc : Nat) (ul : List Nt) (na : Option Addr) (nc : Nat) (nl : List Nt) (w : World) (h : WdAt w sa sl ga gl da dl ua ul na nl) (hp : PcsP gl) : Calls Try.prog 40 #[.agg #[.int .i64 t, .int .i64 m, .int .i64 y, .int .i64 z, .int .i64 p, .int .i64 d, .int .i64 o, .int .i64 g, .int .i64 u, .int .i64 n, .slice sa sl.length sc, .slice ga gl.length gc, .slice da dl.length dc, .slice ua ul.length uc, .slice na nl.length nc]] w fun e w' => e = .returned (.bool (decide (upsW gl (ul.map Nt.o)))) ∧ w.grownBy w' none := by
  have hg0 := World.grownBy_alloc w (.cells #[.int .i64 t, .int .i64 m, .int .i64 y, .int .i64 z, .int .i64 p, .int .i64 d, .int .i64 o, .int .i64 g, .int .i64 u, .int .i64 n, .slice sa sl.length sc, .slice ga gl.length gc, .slice da dl.length dc, .slice ua ul.length uc, .slice na nl.length nc] 40) none
  have HA := Lib.hid (And.intro (h.kept hg0) (And.intro hg0 (Bx.new w 40 #[.int .i64 t, .int .i64 m, .int .i64 y, .int .i64 z, .int .i64 p, .int .i64 d, .int .i64 o, .int .i64 g, .int .i64 u, .int .i64 n, .slice sa sl.length sc, .slice ga gl.length gc, .slice da dl.length dc, .slice ua ul.length uc, .slice na nl.length nc])))
  clear h hg0
  have HP := Lib.hid hp
  have hpl := pref_len hp
  have hgl := hp.1
  clear hp
  go_enter Try.func40, Try.ntmps40
  go_upto_region 1 with fail
  generalize w.alloc (.cells #[.int .i64 t, .int .i64 m, .int .i64 y, .int .i64 z, .int .i64 p, .int .i64 d, .int .i64 o, .int .i64 g, .int .i64 u, .int .i64 n, .slice sa sl.length sc, .slice ga gl.length gc, .slice da dl.length dc, .slice ua ul.length uc, .slice na nl.length nc] 40) = w1 at *
  generalize w.heap.size = B at *
  have p13 := HA.out.2.2.c 13 rfl
  by_cases h60 : 60 < ul.length
  · have h60' : (60 : Int) < (ul.length : Int) := by omega
    go_wp2_with fail
    go_ret
    exact ⟨ret_no (fun h => by have := h.1; rw [List.length_map] at this; omega), HA.out.2.1⟩
  · have h60' : ¬ (60 : Int) < (ul.length : Int) := by omega
    have p11 := HA.out.2.2.c 11 rfl
    go_wp2_with fail
    refine (pre_I ga gc gl _ HA.out.1.g).mono ?_
    rintro e w2 ⟨rfl, hg⟩
    have H2 := Lib.hid (And.intro (grownBy_trans HA.out.2.1 hg) (And.intro (HA.out.1.kept hg) (HA.out.2.2.keep hg)))
    clear hg p13 p11 HA
    have p13 := H2.out.2.2.c 13 rfl
    have HL := Lib.hid (show ∃ Y : Nat, (prefL gl).length = Y ∧ Y ≤ 6000 from ⟨_, rfl, hpl⟩)
    obtain ⟨Y, hY, hY2⟩ := HL.out
    rw [hY]
    have HY := Lib.hid hY
    clear hY hpl HL
    go_wp2_with fail
    clear p13
    go_loopw [16] (fun i wr => UpRel w2 gl ul i wr) (fun i _ => ul.length - (intOf i).toNat)
    case atStart => exact ⟨0, Nat.zero_le _, rfl, World.grownBy.refl _ _, by simp⟩
    case round =>
      obtain ⟨j, hj, rfl, hg, hin⟩ := hrel
      have HS := Lib.hid (And.intro hg hin)
      clear hg hin
      by_cases hlt : j < ul.length
      · obtain ⟨b1, off1, rfl, ⟨c0, c1, c2, c3⟩, hrg⟩ := nt_cells (H2.out.2.1.u.kept HS.out.1) hlt
        have HN := Lib.hid (fun h => all_more (P := fun x => upW gl x.o) ul j hlt HS.out.2 h)
        have HM := Lib.hid (fun h => all_not (P := fun x => upW gl x.o) ul j hlt h)
        generalize ul[j] = x at *
        obtain ⟨xk, xf, xn, xa, xc, xl⟩ := x
        dsimp only at c0 c1 c2 c3 hrg
        have hlt' : (j : Int) < (ul.length : Int) := by omega
        have hj0 : (0 : Int) ≤ (j : Int) := by omega
        have gX := World.grownBy_alloc wr (.cells #[.int .i64 xk, .int .i64 xf, .int .i64 xn, .slice xa xl.length xc] 67) none
        have H3 := Lib.hid (And.intro (grownBy_trans HS.out.1 gX) (And.intro (Bx.new wr 67 #[.int .i64 xk, .int .i64 xf, .int .i64 xn, .slice xa xl.length xc]) (hrg.kept gX)))
        clear gX hrg
        go_upto_region 7 with fail
        clear c0 c1 c2 c3
        generalize wr.alloc (.cells #[.int .i64 xk, .int .i64 xf, .int .i64 xn, .slice xa xl.length xc] 67) = w3 at *
        generalize wr.heap.size = P at *
        have c0 := H3.out.2.1.c 0 rfl
        have c1 := H3.out.2.1.c 1 rfl
        have c2 := H3.out.2.1.c 2 rfl
        have c3 := H3.out.2.1.c 3 rfl
        by_cases g1 : xk = 2
        · subst g1
          go_wp2_with fail
          refine (note_I 2 xf xn xa xc xl _ H3.out.2.2).mono ?_
          rintro e w4 ⟨rfl, hg⟩
          have H4 := Lib.hid (And.intro (grownBy_trans H3.out.1 hg) (And.intro (H3.out.2.1.keep hg) (H3.out.2.2.kept hg)))
          clear hg c0 c1 c2 c3
          have c1 := H4.out.2.1.c 1 rfl
          have c3 := H4.out.2.1.c 3 rfl
          have c4 := (H2.out.2.2.keep H4.out.1).c 11 rfl
          by_cases g2 : noteP 2 xf xn xl
          · rw [decide_eq_true g2]
            have G2 := Lib.hid g2
            have hx3 : xl.length ≤ 1048576 := by
              rcases g2 with ⟨h, _⟩ | ⟨_, _, _, _, h5⟩
              · exact absurd h (by decide)
              · have := h5.1; omega
            clear g2
            by_cases g3 : (Y : Int) < xf
            · have HQ := Lib.hid (HM.out (fun h => by have h1 := h.2.2.1; rw [HY.out] at h1; simp only [Nt.o] at h1; omega))
              go_wp2_with fail
              go_ret
              exact ⟨ret_no (ups_no HQ.out), grownBy_trans H2.out.1 H4.out.1⟩
            · have G3 := Lib.hid (show xf ≤ ((prefL gl).length : Int) by rw [HY.out]; omega)
              go_wp2_with fail
              refine (allin_I ga gc gl xa xc xl _ (H2.out.2.1.g.kept H4.out.1) (by omega) HP.out.2.1 H4.out.2.2 hx3).mono ?_
              rintro e w5 ⟨rfl, hg⟩
              have H5 := Lib.hid (grownBy_trans H4.out.1 hg)
              clear hg c1 c3 c4
              by_cases g4 : hadAll gl xl
              · rw [decide_eq_true g4]
                have HQ := Lib.hid (HN.out ⟨rfl, G2.out, G3.out, g4⟩)
                clear g4
                go_wp2_with fail
                go_roundw
                case rel => exact ⟨j + 1, hlt, by go_num, H5.out, HQ.out⟩
                case measure => simp [intOf]; omega
              · rw [decide_eq_false g4]
                have HQ := Lib.hid (HM.out (fun h => g4 h.2.2.2))
                clear g4
                go_wp2_with fail
                go_ret
                exact ⟨ret_no (ups_no HQ.out), grownBy_trans H2.out.1 H5.out⟩
          · rw [decide_eq_false g2]
            have HQ := Lib.hid (HM.out (fun h => g2 h.2.1))
            clear g2
            go_wp2_with fail
            go_ret
            exact ⟨ret_no (ups_no HQ.out), grownBy_trans H2.out.1 H4.out.1⟩
        · have HQ := Lib.hid (HM.out (fun h => g1 h.1))
          have hb1 : (xk != 2) = true := by simp only [bne, Bool.not_eq_true', beq_eq_false_iff_ne]; exact g1
          have hb2 : (xk == 2) = false := by simp only [beq_eq_false_iff_ne]; exact g1
          clear g1
          go_wp2_with fail
          go_ret
          exact ⟨ret_no (ups_no HQ.out), grownBy_trans H2.out.1 H3.out.1⟩
      · obtain rfl : j = ul.length := by omega
        have HQ := Lib.hid (show ∀ x ∈ ul, upW gl x.o by have h2 := HS.out.2; rw [List.take_length] at h2; exact h2)
        go_wp2_with fail
        go_ret
        exact ⟨ret_yes (ups_yes (by omega) HQ.out), grownBy_trans H2.out.1 HS.out.1⟩

set_option maxRecDepth 100000 in
theorem tot_I (t : Int) (w : World) : Calls Try.prog 37 #[.int .i64 t] w fun e w' => e = .returned (.bool (decide (0 ≤ t ∧ t ≤ 3000))) ∧ w = w' := by
  by_cases h1 : 0 ≤ t
  · by_cases h2 : t ≤ 3000
    · go_enter Try.func37, Try.ntmps37
      go_wp2
      go_ret
      exact ⟨congrArg (fun b => Ending.returned (.bool b)) (by rw [Bool.eq_iff_iff]; simp; try omega), rfl⟩
    · go_enter Try.func37, Try.ntmps37
      go_wp2
      go_ret
      exact ⟨congrArg (fun b => Ending.returned (.bool b)) (by rw [Bool.eq_iff_iff]; simp; try omega), rfl⟩
  · go_enter Try.func37, Try.ntmps37
    go_wp2
    go_ret
    exact ⟨congrArg (fun b => Ending.returned (.bool b)) (by rw [Bool.eq_iff_iff]; simp; try omega), rfl⟩

open Classical in
set_option maxRecDepth 100000 in
set_option maxHeartbeats 4000000 in
theorem wd_I (t m y z p d o g u n : Int) (sa : Option Addr) (sc : Nat) (sl : List Rg) (ga : Option Addr) (gc : Nat) (gl : List Pk) (da : Option Addr) (dc : Nat) (dl : List Rg) (ua : Option Addr) (uc : Nat) (ul : List Nt) (na : Option Addr) (nc : Nat) (nl : List Nt) (w : World) (h : WdAt w sa sl ga gl da dl ua ul na nl) (hdl : dl.length ≤ 1048576) : Calls Try.prog 8 #[.agg #[.int .i64 t, .int .i64 m, .int .i64 y, .int .i64 z, .int .i64 p, .int .i64 d, .int .i64 o, .int .i64 g, .int .i64 u, .int .i64 n, .slice sa sl.length sc, .slice ga gl.length gc, .slice da dl.length dc, .slice ua ul.length uc, .slice na nl.length nc]] w fun e w' => e = .returned (.bool (wdOk t ⟨m, y, z, p, d, o, g⟩ u n sl gl dl (ul.map Nt.o) (nl.map Nt.o))) ∧ w.grownBy w' none := by
  unfold wdOk
  have hg0 := World.grownBy_alloc w (.cells #[.int .i64 t, .int .i64 m, .int .i64 y, .int .i64 z, .int .i64 p, .int .i64 d, .int .i64 o, .int .i64 g, .int .i64 u, .int .i64 n, .slice sa sl.length sc, .slice ga gl.length gc, .slice da dl.length dc, .slice ua ul.length uc, .slice na nl.length nc] 40) none
  have HA := Lib.hid (And.intro (h.kept hg0) (And.intro hg0 (Bx.new w 40 #[.int .i64 t, .int .i64 m, .int .i64 y, .int .i64 z, .int .i64 p, .int .i64 d, .int .i64 o, .int .i64 g, .int .i64 u, .int .i64 n, .slice sa sl.length sc, .slice ga gl.length gc, .slice da dl.length dc, .slice ua ul.length uc, .slice na nl.length nc])))
  clear h hg0
  go_enter Try.func8, Try.ntmps8
  go_upto_region 1 with fail
  generalize w.alloc (.cells #[.int .i64 t, .int .i64 m, .int .i64 y, .int .i64 z, .int .i64 p, .int .i64 d, .int .i64 o, .int .i64 g, .int .i64 u, .int .i64 n, .slice sa sl.length sc, .slice ga gl.length gc, .slice da dl.length dc, .slice ua ul.length uc, .slice na nl.length nc] 40) = w1 at *
  generalize w.heap.size = B at *
  have p1 := HA.out.2.2.c 1 rfl
  have p2 := HA.out.2.2.c 2 rfl
  have p3 := HA.out.2.2.c 3 rfl
  have p4 := HA.out.2.2.c 4 rfl
  have p5 := HA.out.2.2.c 5 rfl
  have p6 := HA.out.2.2.c 6 rfl
  have p7 := HA.out.2.2.c 7 rfl
  obtain ⟨b3, hb3⟩ : ∃ b3 : Bool, b3 = true ↔ (rnOk ⟨m, y, z, p, d, o, g⟩ = true ∧ m ≤ 200) := ⟨decide (rnOk ⟨m, y, z, p, d, o, g⟩ = true ∧ m ≤ 200), by simp only [decide_eq_true_eq]⟩
  obtain ⟨b4, hb4⟩ : ∃ b4 : Bool, b4 = true ↔ (bdP u n sl ∧ n ≤ t) := ⟨decide (bdP u n sl ∧ n ≤ t), by simp only [decide_eq_true_eq]⟩
  have H3b := Lib.hid hb3
  have H4b := Lib.hid hb4
  clear hb3 hb4
  go_cut [3] (fun s3 wx => s3 = .bool b3 ∧ w1.grownBy wx none)
  case first =>
    go_wp2_with fail
    refine (rn_okg m y z p d o g _).mono ?_
    rintro e w2 ⟨rfl, hg⟩
    have H2 := Lib.hid hg
    have q1 := hg.cell p1 (by simp)
    clear hg
    cases hr : rnOk ⟨m, y, z, p, d, o, g⟩
    · have HR := Lib.hid hr
      go_wp2_with fail
      go_meet
      exact ⟨congrArg Value.bool (Bool.eq_false_iff.2 (fun h => by have h2 := (H3b.out.1 h).1; rw [HR.out] at h2; cases h2)).symm, H2.out⟩
    · have HR := Lib.hid hr
      by_cases hm : m ≤ 200
      · go_wp2_with fail
        go_meet
        exact ⟨congrArg Value.bool (H3b.out.2 ⟨HR.out, hm⟩).symm, H2.out⟩
      · go_wp2_with fail
        go_meet
        exact ⟨congrArg Value.bool (by rw [show decide (m ≤ 200) = false from decide_eq_false (by omega)]; exact (Bool.eq_false_iff.2 (fun h => by have h2 := (H3b.out.1 h).2; omega)).symm), H2.out⟩
  case rest =>
    obtain ⟨rfl, hgx⟩ := hcut
    have HB := Lib.hid (And.intro (grownBy_trans HA.out.2.1 hgx) (And.intro (HA.out.1.kept hgx) (HA.out.2.2.keep hgx)))
    clear hgx p1 p2 p3 p4 p5 p6 p7 HA
    generalize hwc : wc = w2 at *
    clear hwc
    have p8 := HB.out.2.2.c 8 rfl
    have p9 := HB.out.2.2.c 9 rfl
    have p10 := HB.out.2.2.c 10 rfl
    go_upto_region 2 with fail
    go_cut [4] (fun s4 wx => s4 = .bool b4 ∧ w2.grownBy wx none)
    case first =>
      go_wp2_with fail
      refine (bd_ok_impl u n sa sc sl _ HB.out.2.1.s).mono ?_
      rintro e w3 ⟨rfl, hg⟩
      have H3 := Lib.hid hg
      have q9 := hg.cell p9 (by simp)
      have q0 := (HB.out.2.2.keep hg).c 0 rfl
      clear hg
      cases hr : bdOk u n sl
      · have HN := Lib.hid (bd_not hr)
        go_wp2_with fail
        go_meet
        exact ⟨congrArg Value.bool (Bool.eq_false_iff.2 (fun h => HN.out (H4b.out.1 h).1)).symm, H3.out⟩
      · have HN := Lib.hid (bd_of hr)
        by_cases hm : n ≤ t
        · go_wp2_with fail
          go_meet
          exact ⟨congrArg Value.bool (H4b.out.2 ⟨HN.out, hm⟩).symm, H3.out⟩
        · go_wp2_with fail
          go_meet
          exact ⟨congrArg Value.bool (by rw [show decide (n ≤ t) = false from decide_eq_false (by omega)]; exact (Bool.eq_false_iff.2 (fun h => by have h2 := (H4b.out.1 h).2; omega)).symm), H3.out⟩
    case rest =>
      obtain ⟨rfl, hgx⟩ := hcut
      have HC := Lib.hid (And.intro (grownBy_trans HB.out.1 hgx) (And.intro (HB.out.2.1.kept hgx) (HB.out.2.2.keep hgx)))
      clear hgx p8 p9 p10 HB
      generalize hwc : wc = w3 at *
      clear hwc
      go_upto_region 3 with fail
      have p0 := HC.out.2.2.c 0 rfl
      cases b3
      rotate_left
      · cases b4
        rotate_left
        · have HAB := Lib.hid (And.intro (H3b.out.1 rfl) (H4b.out.1 rfl))
          go_wp2_with fail
          refine (tot_I t _).mono ?_
          rintro e w4 ⟨rfl, rfl⟩
          by_cases ht : 0 ≤ t ∧ t ≤ 3000
          · rw [decide_eq_true ht]
            have HT := Lib.hid ht
            obtain ⟨ht0, ht1⟩ := ht
            have hbd := HAB.out.2
            obtain ⟨⟨hb0, hb1, hb2, hb3, _⟩, hb4⟩ := hbd
            have p1 := HC.out.2.2.c 1 rfl
            have p2 := HC.out.2.2.c 2 rfl
            have p3 := HC.out.2.2.c 3 rfl
            have p4 := HC.out.2.2.c 4 rfl
            have p5 := HC.out.2.2.c 5 rfl
            have p6 := HC.out.2.2.c 6 rfl
            have p7 := HC.out.2.2.c 7 rfl
            have p8 := HC.out.2.2.c 8 rfl
            have p9 := HC.out.2.2.c 9 rfl
            have p10 := HC.out.2.2.c 10 rfl
            have p11 := HC.out.2.2.c 11 rfl
            have p12 := HC.out.2.2.c 12 rfl
            have p13 := HC.out.2.2.c 13 rfl
            have p14 := HC.out.2.2.c 14 rfl
            go_wp2_with fail
            refine (got_I t m y z p d o g u n sa sc sl ga gc gl da dc dl ua uc ul na nc nl _ HC.out.2.1 ⟨hb0, hb1, by omega⟩ (by omega)).mono ?_
            rintro e w5 ⟨rfl, hg⟩
            have HD := Lib.hid (And.intro (grownBy_trans HC.out.1 hg) (And.intro (HC.out.2.1.kept hg) (HC.out.2.2.keep hg)))
            clear hg p0 p1 p2 p3 p4 p5 p6 p7 p8 p9 p10 p11 p12 p13 p14 HC
            by_cases hgw : gotW u n sl gl
            · rw [decide_eq_true hgw]
              have HG := Lib.hid hgw
              clear hgw
              have p0 := HD.out.2.2.c 0 rfl
              have p1 := HD.out.2.2.c 1 rfl
              have p2 := HD.out.2.2.c 2 rfl
              have p3 := HD.out.2.2.c 3 rfl
              have p4 := HD.out.2.2.c 4 rfl
              have p5 := HD.out.2.2.c 5 rfl
              have p6 := HD.out.2.2.c 6 rfl
              have p7 := HD.out.2.2.c 7 rfl
              have p8 := HD.out.2.2.c 8 rfl
              have p9 := HD.out.2.2.c 9 rfl
              have p10 := HD.out.2.2.c 10 rfl
              have p11 := HD.out.2.2.c 11 rfl
              have p12 := HD.out.2.2.c 12 rfl
              have p13 := HD.out.2.2.c 13 rfl
              have p14 := HD.out.2.2.c 14 rfl
              go_wp2_with fail
              refine (down_I t m y z p d o g u n sa sc sl ga gc gl da dc dl ua uc ul na nc nl _ HD.out.2.1 (by omega) hdl).mono ?_
              rintro e w6 ⟨rfl, hg⟩
              have HE := Lib.hid (And.intro (grownBy_trans HD.out.1 hg) (And.intro (HD.out.2.1.kept hg) (HD.out.2.2.keep hg)))
              clear hg p0 p1 p2 p3 p4 p5 p6 p7 p8 p9 p10 p11 p12 p13 p14 HD
              by_cases hdw : downsW n m dl
              · rw [decide_eq_true hdw]
                have HDW := Lib.hid hdw
                clear hdw
                have p0 := HE.out.2.2.c 0 rfl
                have p1 := HE.out.2.2.c 1 rfl
                have p2 := HE.out.2.2.c 2 rfl
                have p3 := HE.out.2.2.c 3 rfl
                have p4 := HE.out.2.2.c 4 rfl
                have p5 := HE.out.2.2.c 5 rfl
                have p6 := HE.out.2.2.c 6 rfl
                have p7 := HE.out.2.2.c 7 rfl
                have p8 := HE.out.2.2.c 8 rfl
                have p9 := HE.out.2.2.c 9 rfl
                have p10 := HE.out.2.2.c 10 rfl
                have p11 := HE.out.2.2.c 11 rfl
                have p12 := HE.out.2.2.c 12 rfl
                have p13 := HE.out.2.2.c 13 rfl
                have p14 := HE.out.2.2.c 14 rfl
                go_wp2_with fail
                refine (up_I t m y z p d o g u n sa sc sl ga gc gl da dc dl ua uc ul na nc nl _ HE.out.2.1 HG.out.1).mono ?_
                rintro e w7 ⟨rfl, hg⟩
                have HF := Lib.hid (And.intro (grownBy_trans HE.out.1 hg) (And.intro (HE.out.2.1.kept hg) (HE.out.2.2.keep hg)))
                clear hg p0 p1 p2 p3 p4 p5 p6 p7 p8 p9 p10 p11 p12 p13 p14 HE
                by_cases huw : upsW gl (ul.map Nt.o)
                · rw [decide_eq_true huw]
                  have HUW := Lib.hid huw
                  clear huw
                  have p14 := HF.out.2.2.c 14 rfl
                  go_wp2_with fail
                  refine (notes_I na nc nl _ HF.out.2.1.n).mono ?_
                  rintro e w8 ⟨rfl, hg⟩
                  have HH := Lib.hid (grownBy_trans HF.out.1 hg)
                  have HZ := Lib.hid (show decide (notesP nl) = decide (wdP t ⟨m, y, z, p, d, o, g⟩ u n sl gl dl (ul.map Nt.o) (nl.map Nt.o)) from decide_eq_decide.2 ((notesO_iff nl).trans ⟨fun h => ⟨HT.out, HAB.out.1, HAB.out.2, HG.out, HDW.out, HUW.out, h⟩, fun h => h.2.2.2.2.2.2⟩))
                  rw [HZ.out]
                  clear hg p14
                  go_wp2_with fail
                  go_ret
                  exact ⟨rfl, HH.out⟩
                · rw [decide_eq_false huw]
                  have HUW := Lib.hid huw
                  clear huw
                  go_wp2_with fail
                  go_ret
                  exact ⟨ret_no (fun h => HUW.out h.2.2.2.2.2.1), HF.out.1⟩
              · rw [decide_eq_false hdw]
                have HDW := Lib.hid hdw
                clear hdw
                go_wp2_with fail
                go_ret
                exact ⟨ret_no (fun h => HDW.out h.2.2.2.2.1), HE.out.1⟩
            · rw [decide_eq_false hgw]
              have HG := Lib.hid hgw
              clear hgw
              go_wp2_with fail
              go_ret
              exact ⟨ret_no (fun h => HG.out h.2.2.2.1), HD.out.1⟩
          · rw [decide_eq_false ht]
            have HT := Lib.hid ht
            clear ht
            go_wp2_with fail
            go_ret
            exact ⟨ret_no (fun h => HT.out h.1), HC.out.1⟩
        · have HN := Lib.hid (show ¬ (bdP u n sl ∧ n ≤ t) from fun h => absurd (H4b.out.2 h) (by decide))
          go_wp2_with fail
          refine (tot_I t _).mono ?_
          rintro e w4 ⟨rfl, rfl⟩
          generalize decide (0 ≤ t ∧ t ≤ 3000) = bt at *
          cases bt
          · go_wp2_with fail
            go_ret
            exact ⟨ret_no (fun h => HN.out h.2.2.1), HC.out.1⟩
          · go_wp2_with fail
            go_ret
            exact ⟨ret_no (fun h => HN.out h.2.2.1), HC.out.1⟩
      · have HN := Lib.hid (show ¬ (rnOk ⟨m, y, z, p, d, o, g⟩ = true ∧ m ≤ 200) from fun h => absurd (H3b.out.2 h) (by decide))
        go_wp2_with fail
        refine (tot_I t _).mono ?_
        rintro e w4 ⟨rfl, rfl⟩
        generalize decide (0 ≤ t ∧ t ≤ 3000) = bt at *
        cases bt
        · go_wp2_with fail
          go_ret
          exact ⟨ret_no (fun h => HN.out h.2.1), HC.out.1⟩
        · go_wp2_with fail
          go_ret
          exact ⟨ret_no (fun h => HN.out h.2.1), HC.out.1⟩

end Go.Proofs.Yteffpcgmoegomaa
