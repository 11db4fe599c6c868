/- WdT -/
import Derived.Test.YtedhemllgpbheaaQ32
import Derived.Test.YtedhemllgpbheaaQ11
import Derived.Test.YtedhemllgpbheaaQ22
namespace Go.Proofs.Ytedhemllgpbheaa
open Go.RowKit
open P7 (Pk PkAt pcsOk prefL PcsP pcs_of pcs_yes pcs_not pc1 ok_spec pref_spec Apart)

theorem pre_had {gl : List Pk} (h : PcsP gl) (u : Int) (hu : 0 < u) : u ≤ ((prefL gl).length : Int) ↔ hadL gl (0, u) := by
  have hk := pcs_yes h
  obtain ⟨_, h2, h3⟩ := h
  unfold prefL
  rw [if_pos hk]
  cases gl with
  | nil =>
    constructor
    · intro h; simp at h; omega
    · rintro ⟨p, hp, _⟩; cases hp
  | cons q l =>
    have hq := h2 q (List.mem_cons_self ..)
    obtain ⟨q0, q1, q2, q3⟩ := hq
    dsimp only
    constructor
    · intro h
      by_cases hc : q.1 ≤ 0
      · rw [if_pos hc] at h
        exact ⟨q, List.mem_cons_self .., hc, by dsimp only; omega⟩
      · rw [if_neg hc] at h
        simp at h
        omega
    · rintro ⟨p, hp, h4, h5⟩
      dsimp only at h4 h5
      rcases List.mem_cons.mp hp with rfl | hp
      · rw [if_pos h4]; omega
      · exfalso
        obtain ⟨i, hi, rfl⟩ := List.getElem_of_mem hp
        have ha := h3 i (by simp only [List.length_cons]; omega)
        have hpi := h2 ((q :: l)[i]'(by simp only [List.length_cons]; omega)) (List.getElem_mem _)
        obtain ⟨b0, _, b2, _⟩ := hpi
        rw [List.getElem_cons_succ] at ha
        omega

theorem rn_okG (m w l p d o g : Int) (W : World) : Calls Try.prog 32 #[.agg #[.int .i64 m, .int .i64 w, .int .i64 l, .int .i64 p, .int .i64 d, .int .i64 o, .int .i64 g]] W fun e w' => e = .returned (.bool (rnOk ⟨m, w, l, p, d, o, g⟩)) ∧ W.grownBy w' none :=
  (rn_okS m w l p d o g W).mono fun e w' h => ⟨h.1, by rw [h.2]; exact World.grownBy_alloc _ _ _⟩

/-- What the model asks first. -/
def firstW (t : Int) (r : Rn) (u n : Int) (sl : List Rg) (gl : List Pk) (dl : List Rg) (ul nl : List Nt) : Prop :=
  (0 ≤ t ∧ t ≤ 3000) ∧ (rnOk r = true ∧ r.m ≤ 200) ∧ (bdP u n sl ∧ n ≤ t) ∧ PcsP gl ∧ dl.length ≤ 60 ∧ ul.length ≤ 60 ∧ notesP nl

def WuRel (w : World) (gl : List Pk) (ul : List Nt) (s10 _s12 : Value) (wr : World) : Prop := ∃ j : Nat, j ≤ ul.length ∧ s10 = .int .i64 j ∧ w.grownBy wr none ∧ ∀ x ∈ ul.take j, upW gl x.o
theorem ups_yes2 {gl : List Pk} {ul : List Nt} (h60 : ul.length ≤ 60) (h : ∀ x ∈ ul, upW gl x.o) : upsW gl (ul.map Nt.o) := ⟨by simpa using h60, by simpa using h⟩
theorem ups_no2 {gl : List Pk} {ul : List Nt} (h : ¬ ∀ x ∈ ul, upW gl x.o) : ¬ upsW gl (ul.map Nt.o) := fun k => h (by simpa using k.2)
def WpRel (w : World) (n : Int) (gl : List Pk) (s3 _s5 : Value) (wr : World) : Prop := ∃ j : Nat, j ≤ gl.length ∧ s3 = .int .i64 j ∧ w.grownBy wr none ∧ ∀ p ∈ gl.take j, pieceW n p
def WsRel (w : World) (gl : List Pk) (sl : List Rg) (i : Value) (wr : World) : Prop := ∃ j : Nat, j ≤ sl.length ∧ i = .int .i64 j ∧ w.grownBy wr none ∧ ∀ x ∈ sl.take j, hadL gl x
def WdRel (w : World) (n m : Int) (dl : List Rg) (i : Value) (wr : World) : Prop := ∃ j : Nat, j ≤ dl.length ∧ i = .int .i64 j ∧ w.grownBy wr none ∧ ∀ x ∈ dl.take j, downW n m x

open Classical in
set_option maxRecDepth 100000 in
set_option maxHeartbeats 60000000 in
theorem wd_S (t m y z p d o g u n : Int) (sa : Option Addr) (sc : Nat) (sl : List Rg) (ga : Option Addr) (gc : Nat) (gl : List Pk) (da : Option Addr) (dc : Nat) (dl : List Rg) (ua : Option Addr) (uc : Nat) (ul : List Nt) (na : Option Addr) (nc : Nat) (nl : List Nt) (w : World) (h : WdAt w sa sl ga gl da dl ua ul na nl) (hsl : sl.length ≤ 1048576) (hgl : gl.length ≤ 1048576) (hdl : dl.length ≤ 1048576) (hul : ul.length ≤ 1048576) (hnl : nl.length ≤ 1048576) (hnm : ∀ x ∈ nl, x.l.length ≤ 1048576) (hum : ∀ x ∈ ul, x.l.length ≤ 1048576) : Calls Try.prog 29 #[.agg #[.int .i64 t, .int .i64 m, .int .i64 y, .int .i64 z, .int .i64 p, .int .i64 d, .int .i64 o, .int .i64 g, .int .i64 u, .int .i64 n, .slice sa sl.length sc, .slice ga gl.length gc, .slice da dl.length dc, .slice ua ul.length uc, .slice na nl.length nc]] w fun e w' => e = .returned (.bool (wdOk t ⟨m, y, z, p, d, o, g⟩ u n sl gl dl (ul.map Nt.o) (nl.map Nt.o))) ∧ w.grownBy w' none := by
  unfold wdOk
  have hg0 := World.grownBy_alloc w (.cells #[.int .i64 t, .int .i64 m, .int .i64 y, .int .i64 z, .int .i64 p, .int .i64 d, .int .i64 o, .int .i64 g, .int .i64 u, .int .i64 n, .slice sa sl.length sc, .slice ga gl.length gc, .slice da dl.length dc, .slice ua ul.length uc, .slice na nl.length nc] 53) none
  have HA := Lib.hid (And.intro hg0 (And.intro (h.kept hg0) (Bx.new w 53 #[.int .i64 t, .int .i64 m, .int .i64 y, .int .i64 z, .int .i64 p, .int .i64 d, .int .i64 o, .int .i64 g, .int .i64 u, .int .i64 n, .slice sa sl.length sc, .slice ga gl.length gc, .slice da dl.length dc, .slice ua ul.length uc, .slice na nl.length nc])))
  clear h hg0
  go_enter Try.func29, Try.ntmps29
  go_upto_region 1 with fail
  generalize w.alloc (.cells #[.int .i64 t, .int .i64 m, .int .i64 y, .int .i64 z, .int .i64 p, .int .i64 d, .int .i64 o, .int .i64 g, .int .i64 u, .int .i64 n, .slice sa sl.length sc, .slice ga gl.length gc, .slice da dl.length dc, .slice ua ul.length uc, .slice na nl.length nc] 53) = w1 at *
  generalize w.heap.size = B at *
  have p0 := HA.out.2.2.c 0 rfl
  have p1 := HA.out.2.2.c 1 rfl
  have p2 := HA.out.2.2.c 2 rfl
  have p3 := HA.out.2.2.c 3 rfl
  have p4 := HA.out.2.2.c 4 rfl
  have p5 := HA.out.2.2.c 5 rfl
  have p6 := HA.out.2.2.c 6 rfl
  have p7 := HA.out.2.2.c 7 rfl
  have p8 := HA.out.2.2.c 8 rfl
  have p9 := HA.out.2.2.c 9 rfl
  have p10 := HA.out.2.2.c 10 rfl
  have p11 := HA.out.2.2.c 11 rfl
  have p12 := HA.out.2.2.c 12 rfl
  have p13 := HA.out.2.2.c 13 rfl
  have p14 := HA.out.2.2.c 14 rfl
  have HA2 := Lib.hid (And.intro (World.grownBy.refl w1 none) HA.out.2)
  obtain ⟨bb, hbb⟩ : ∃ bb : Bool, bb = true ↔ ¬ firstW t ⟨m, y, z, p, d, o, g⟩ u n sl gl dl ul nl := ⟨decide (¬ firstW t ⟨m, y, z, p, d, o, g⟩ u n sl gl dl ul nl), by simp only [decide_eq_true_eq]⟩
  have HB := Lib.hid hbb
  clear hbb
  go_cut [66] (fun s66 wx => s66 = .bool bb ∧ w1.grownBy wx none)
  case first => as_aux_lemma =>
    go_wp2_with fail
    refine (in_any t 0 3000 _).mono ?_
    rintro e wa ⟨rfl, rfl⟩
    cases g1 : inB t 0 3000
    · have G1 := Lib.hid (in_not g1)
      go_wp2_with fail
      go_meet
      exact ⟨congrArg Value.bool ((HB.out.2 (fun h => G1.out h.1))).symm, HA2.out.1⟩
    · have G1 := Lib.hid (in_of g1)
      go_wp2_with fail
      refine (rn_okG m y z p d o g _).mono ?_
      rintro e wb ⟨rfl, hg⟩
      have HC := Lib.hid (And.intro (grownBy_trans HA2.out.1 hg) (And.intro (HA2.out.2.1.kept hg) (HA2.out.2.2.keep hg)))
      clear hg p0 p1 p2 p3 p4 p5 p6 p7 p8 p9 p10 p11 p12 p13 p14
      have p0 := HC.out.2.2.c 0 rfl
      have p1 := HC.out.2.2.c 1 rfl
      have p2 := HC.out.2.2.c 2 rfl
      have p3 := HC.out.2.2.c 3 rfl
      have p4 := HC.out.2.2.c 4 rfl
      have p5 := HC.out.2.2.c 5 rfl
      have p6 := HC.out.2.2.c 6 rfl
      have p7 := HC.out.2.2.c 7 rfl
      have p8 := HC.out.2.2.c 8 rfl
      have p9 := HC.out.2.2.c 9 rfl
      have p10 := HC.out.2.2.c 10 rfl
      have p11 := HC.out.2.2.c 11 rfl
      have p12 := HC.out.2.2.c 12 rfl
      have p13 := HC.out.2.2.c 13 rfl
      have p14 := HC.out.2.2.c 14 rfl
      cases g2 : rnOk ⟨m, y, z, p, d, o, g⟩
      · have G2 := Lib.hid g2
        go_wp2_with fail
        go_meet
        exact ⟨congrArg Value.bool ((HB.out.2 (fun h => by have h2 := h.2.1.1; rw [G2.out] at h2; cases h2))).symm, HC.out.1⟩
      · have G2 := Lib.hid g2
        by_cases g3 : 200 < m
        · have G3 := Lib.hid g3
          go_wp2_with fail
          go_meet
          exact ⟨congrArg Value.bool ((HB.out.2 (fun h => by have h2 := h.2.1.2; have h3 := G3.out; dsimp only at h2; omega))).symm, HC.out.1⟩
        · have G3 := Lib.hid g3
          go_wp2_with fail
          refine (bd_ok_spec u n sa sc sl _ HC.out.2.1.s (by omega)).mono ?_
          rintro e wd ⟨rfl, hg⟩
          have HD := Lib.hid (And.intro (grownBy_trans HC.out.1 hg) (And.intro (HC.out.2.1.kept hg) (HC.out.2.2.keep hg)))
          clear hg p0 p1 p2 p3 p4 p5 p6 p7 p8 p9 p10 p11 p12 p13 p14
          have p0 := HD.out.2.2.c 0 rfl
          have p1 := HD.out.2.2.c 1 rfl
          have p2 := HD.out.2.2.c 2 rfl
          have p3 := HD.out.2.2.c 3 rfl
          have p4 := HD.out.2.2.c 4 rfl
          have p5 := HD.out.2.2.c 5 rfl
          have p6 := HD.out.2.2.c 6 rfl
          have p7 := HD.out.2.2.c 7 rfl
          have p8 := HD.out.2.2.c 8 rfl
          have p9 := HD.out.2.2.c 9 rfl
          have p10 := HD.out.2.2.c 10 rfl
          have p11 := HD.out.2.2.c 11 rfl
          have p12 := HD.out.2.2.c 12 rfl
          have p13 := HD.out.2.2.c 13 rfl
          have p14 := HD.out.2.2.c 14 rfl
          cases g4 : bdOk u n sl
          · have G4 := Lib.hid (bd_not g4)
            go_wp2_with fail
            go_meet
            exact ⟨congrArg Value.bool ((HB.out.2 (fun h => G4.out h.2.2.1.1))).symm, HD.out.1⟩
          · have G4 := Lib.hid (bd_of g4)
            by_cases g5 : t < n
            · have G5 := Lib.hid g5
              go_wp2_with fail
              go_meet
              exact ⟨congrArg Value.bool ((HB.out.2 (fun h => by have h2 := h.2.2.1.2; have h3 := G5.out; omega))).symm, HD.out.1⟩
            · have G5 := Lib.hid g5
              go_wp2_with fail
              refine (ok_spec ga gc gl _ HD.out.2.1.g (by omega)).mono ?_
              rintro e we ⟨rfl, hg⟩
              have HE := Lib.hid (And.intro (grownBy_trans HD.out.1 hg) (And.intro (HD.out.2.1.kept hg) (HD.out.2.2.keep hg)))
              clear hg p0 p1 p2 p3 p4 p5 p6 p7 p8 p9 p10 p11 p12 p13 p14
              have p0 := HE.out.2.2.c 0 rfl
              have p1 := HE.out.2.2.c 1 rfl
              have p2 := HE.out.2.2.c 2 rfl
              have p3 := HE.out.2.2.c 3 rfl
              have p4 := HE.out.2.2.c 4 rfl
              have p5 := HE.out.2.2.c 5 rfl
              have p6 := HE.out.2.2.c 6 rfl
              have p7 := HE.out.2.2.c 7 rfl
              have p8 := HE.out.2.2.c 8 rfl
              have p9 := HE.out.2.2.c 9 rfl
              have p10 := HE.out.2.2.c 10 rfl
              have p11 := HE.out.2.2.c 11 rfl
              have p12 := HE.out.2.2.c 12 rfl
              have p13 := HE.out.2.2.c 13 rfl
              have p14 := HE.out.2.2.c 14 rfl
              cases g6 : pcsOk gl
              · have G6 := Lib.hid (pcs_not g6)
                go_wp2_with fail
                go_meet
                exact ⟨congrArg Value.bool ((HB.out.2 (fun h => G6.out h.2.2.2.1))).symm, HE.out.1⟩
              · have G6 := Lib.hid (pcs_of g6)
                by_cases g7 : 60 < dl.length
                · have g7i : (60 : Int) < (dl.length : Int) := by omega
                  have G7 := Lib.hid g7
                  go_wp2_with fail
                  go_meet
                  exact ⟨congrArg Value.bool ((HB.out.2 (fun h => by have h2 := h.2.2.2.2.1; have h3 := G7.out; omega))).symm, HE.out.1⟩
                · have g7i : ¬ (60 : Int) < (dl.length : Int) := by omega
                  have G7 := Lib.hid g7
                  by_cases g8 : 60 < ul.length
                  · have g8i : (60 : Int) < (ul.length : Int) := by omega
                    have G8 := Lib.hid g8
                    go_wp2_with fail
                    go_meet
                    exact ⟨congrArg Value.bool ((HB.out.2 (fun h => by have h2 := h.2.2.2.2.2.1; have h3 := G8.out; omega))).symm, HE.out.1⟩
                  · have g8i : ¬ (60 : Int) < (ul.length : Int) := by omega
                    have G8 := Lib.hid g8
                    go_wp2_with fail
                    refine (notes_S na nc nl _ HE.out.2.1.n (by omega) hnm).mono ?_
                    rintro e wf ⟨rfl, hg⟩
                    have HF := Lib.hid (And.intro (grownBy_trans HE.out.1 hg) (And.intro (HE.out.2.1.kept hg) (HE.out.2.2.keep hg)))
                    clear hg p0 p1 p2 p3 p4 p5 p6 p7 p8 p9 p10 p11 p12 p13 p14
                    by_cases g9 : notesP nl
                    · rw [decide_eq_true g9]
                      have G9 := Lib.hid g9
                      clear g9
                      go_wp2_with fail
                      go_meet
                      exact ⟨congrArg Value.bool (Eq.trans (b := false) (by first | rfl | (simp; omega)) (Bool.eq_false_iff.2 (fun h => HB.out.1 h (show firstW t ⟨m, y, z, p, d, o, g⟩ u n sl gl dl ul nl from ⟨G1.out, ⟨G2.out, by have := G3.out; dsimp only; omega⟩, ⟨G4.out, by have := G5.out; omega⟩, G6.out, by have := G7.out; omega, by have := G8.out; omega, G9.out⟩))).symm), HF.out.1⟩
                    · rw [decide_eq_false g9]
                      have G9 := Lib.hid g9
                      clear g9
                      go_wp2_with fail
                      go_meet
                      exact ⟨congrArg Value.bool ((HB.out.2 (fun h => G9.out h.2.2.2.2.2.2))).symm, HF.out.1⟩
  case rest => as_aux_lemma =>
    obtain ⟨rfl, hgx⟩ := hcut
    have HC := Lib.hid (And.intro (grownBy_trans HA.out.1 hgx) (And.intro (HA.out.2.1.kept hgx) (HA.out.2.2.keep hgx)))
    clear hgx HA HA2 p0 p1 p2 p3 p4 p5 p6 p7 p8 p9 p10 p11 p12 p13 p14
    generalize hwc : wc = w2 at *
    clear hwc
    cases bb
    rotate_left
    · have HN := Lib.hid (HB.out.1 rfl)
      go_wp2_with fail
      go_ret
      exact ⟨ret_no (fun h => HN.out ⟨h.1, h.2.1, h.2.2.1, h.2.2.2.1.1, h.2.2.2.2.1.2, by have h2 := h.2.2.2.2.2.1.1; rw [List.length_map] at h2; exact h2, (notesO_iff nl).2 h.2.2.2.2.2.2⟩), HC.out.1⟩
    · have HW := Lib.hid (show firstW t ⟨m, y, z, p, d, o, g⟩ u n sl gl dl ul nl from Classical.byContradiction fun h => absurd (HB.out.2 h) (by decide))
      clear HB
      have HP := Lib.hid HW.out.2.2.2.1
      obtain ⟨⟨ht0, ht1⟩, ⟨_, hm0⟩, ⟨hbd, hn0⟩, _, hd60, hu60, _⟩ := HW.out
      obtain ⟨hu0, hu1, _, hs40, _⟩ := hbd
      have hr := rn_of HW.out.2.1.1
      obtain ⟨hr1, _⟩ := hr
      dsimp only at hm0 hr1
      clear hsl hdl hul
      have p11 := HC.out.2.2.c 11 rfl
      go_wp2_with fail
      clear p11
      go_loopw [3, 5] (fun s3 s5 wr => WpRel w2 n gl s3 s5 wr) (fun i _ _ => gl.length - (intOf i).toNat)
      case atStart => exact ⟨0, Nat.zero_le _, rfl, World.grownBy.refl _ _, by simp⟩
      case round => as_aux_lemma =>
        obtain ⟨j, hj, rfl, hg, hin⟩ := hrel
        have HS := Lib.hid (And.intro hg hin)
        clear hg hin
        have HR := Lib.hid (And.intro (grownBy_trans HC.out.1 HS.out.1) (And.intro (HC.out.2.1.kept HS.out.1) (HC.out.2.2.keep HS.out.1)))
        have p11 := HR.out.2.2.c 11 rfl
        by_cases hlt : j < gl.length
        · obtain ⟨b1, off1, rfl, c0, c1⟩ := pk_cells HR.out.2.1.g hlt
          have HN := Lib.hid (fun h => all_more (P := fun p => pieceW n p) gl j hlt HS.out.2 h)
          have HM := Lib.hid (fun h => all_not (P := fun p => pieceW n p) gl j hlt h)
          have hpj := HP.out.2.1 _ (List.getElem_mem hlt)
          generalize gl[j] = x at *
          obtain ⟨q, b⟩ := x
          obtain ⟨hq0, hq1, hb0, hb1⟩ := hpj
          dsimp only at c0 c1 hq0 hq1 hb0 hb1
          have hlt' : (j : Int) < (gl.length : Int) := by omega
          have hj0 : (0 : Int) ≤ (j : Int) := by omega
          have hw : IntKind.i64.wrap (q + (b.length : Int)) = q + (b.length : Int) := IntWalk.i64_in _ (by omega)
          have gX := World.grownBy_alloc wr (.cells #[.int .i64 q, .string ⟨b.toArray⟩] 73) none
          have H3 := Lib.hid (And.intro gX (Bx.new wr 73 #[.int .i64 q, .string ⟨b.toArray⟩]))
          clear gX
          go_upto_region 8 with fail
          clear c0 c1 p11
          generalize wr.alloc (.cells #[.int .i64 q, .string ⟨b.toArray⟩] 73) = w3 at *
          generalize wr.heap.size = P at *
          have c0 := H3.out.2.c 0 rfl
          have c1 := H3.out.2.c 1 rfl
          have c2 := (HR.out.2.2.keep H3.out.1).c 9 rfl
          have hlen : (q + (b.length : Int) - q).toNat = b.length := by omega
          by_cases g1 : n < q + (b.length : Int)
          · have HQ := Lib.hid (HM.out (fun h => by have h1 := h.1; dsimp only at h1; omega))
            go_cut [98] (fun s98 wx => s98 = .bool true ∧ w3.grownBy wx none)
            case first => as_aux_lemma =>
              refine wp_region_held_drew (S := fun w' => w'.cell? ⟨P, 0, none⟩ = some (.int .i64 q) ∧ w'.cell? ⟨P, 1, none⟩ = some (.string ⟨b.toArray⟩) ∧ w'.cell? ⟨B, 9, none⟩ = some (.int .i64 n) ∧ w3.grownBy w' none) (by kernel_rfl) (by have hd : w3.grownBy w3.drew none := ⟨rfl, rfl, rfl, Nat.le_refl _, fun _ _ _ => rfl⟩; exact ⟨(hd).cell c0 (by simp), (hd).cell c1 (by simp), (hd).cell c2 (by simp), hd⟩) (fun hS => ?_)
              refine wpAnyH_take (i := 0) (v := ?_) rfl (by kernel_rfl) (by kernel_rfl) (by kernel_rfl) (fun _ _ _ h => h) (Or.inl ⟨by kernel_rfl, ?_⟩) hS ?_
              rotate_left
              · intro w' hSw
                obtain ⟨g0, g1, g2, _⟩ := hSw
                first | (go_simp; done) | (go_simp; with_reducible rfl)
              simp only [List.getElem_toArray, List.getElem_cons_zero, Act.put, List.setIfInBounds_toArray, List.set_cons_zero, List.set_cons_succ]
              refine wpAnyH_take (i := 1) (v := ?_) rfl (by kernel_rfl) (by kernel_rfl) (by kernel_rfl) (fun _ _ _ h => h) (Or.inl ⟨by kernel_rfl, ?_⟩) hS ?_
              rotate_left
              · intro w' hSw
                obtain ⟨g0, g1, g2, _⟩ := hSw
                first | (go_simp; done) | (go_simp; with_reducible rfl)
              simp only [List.getElem_toArray, List.getElem_cons_zero, List.getElem_cons_succ, Act.put, List.setIfInBounds_toArray, List.set_cons_zero, List.set_cons_succ]
              refine wpAnyH_take (i := 2) (v := ?_) rfl (by kernel_rfl) (by kernel_rfl) (by kernel_rfl) (fun _ _ _ h => h) (Or.inl ⟨by kernel_rfl, ?_⟩) hS ?_
              rotate_left
              · intro w' hSw
                obtain ⟨g0, g1, g2, _⟩ := hSw
                first | (go_simp; done) | (go_simp; with_reducible rfl)
              simp only [List.getElem_toArray, List.getElem_cons_zero, List.getElem_cons_succ, Act.put, List.setIfInBounds_toArray, List.set_cons_zero, List.set_cons_succ]
              refine wpAnyH_take (i := 3) (v := ?_) rfl (by kernel_rfl) (by kernel_rfl) (by kernel_rfl) (fun _ _ _ h => h) (Or.inl ⟨by kernel_rfl, ?_⟩) hS ?_
              rotate_left
              · intro w' hSw
                obtain ⟨g0, g1, g2, _⟩ := hSw
                first | (go_simp; done) | (go_simp; with_reducible rfl)
              simp only [List.getElem_toArray, List.getElem_cons_zero, List.getElem_cons_succ, Act.put, List.setIfInBounds_toArray, List.set_cons_zero, List.set_cons_succ]
              refine wpAnyH_take (i := 4) (v := ?_) rfl (by kernel_rfl) (by kernel_rfl) (by kernel_rfl) (fun _ _ _ h => h) (Or.inl ⟨by kernel_rfl, ?_⟩) hS ?_
              rotate_left
              · intro w' hSw
                obtain ⟨g0, g1, g2, _⟩ := hSw
                first | (go_simp; done) | (go_simp; with_reducible rfl)
              simp only [List.getElem_toArray, List.getElem_cons_zero, List.getElem_cons_succ, Act.put, List.setIfInBounds_toArray, List.set_cons_zero, List.set_cons_succ]
              refine wpAnyH_take (i := 5) (v := ?_) rfl (by kernel_rfl) (by kernel_rfl) (by kernel_rfl) (fun _ _ _ h => h) (Or.inl ⟨by kernel_rfl, ?_⟩) hS ?_
              rotate_left
              · intro w' hSw
                obtain ⟨g0, g1, g2, _⟩ := hSw
                first | (go_simp; done) | (go_simp; with_reducible rfl)
              simp only [List.getElem_toArray, List.getElem_cons_zero, List.getElem_cons_succ, Act.put, List.setIfInBounds_toArray, List.set_cons_zero, List.set_cons_succ]
              refine wpAnyH_take (i := 6) (v := undef) rfl (by kernel_rfl) (by kernel_rfl) (by kernel_rfl) (fun _ _ _ h => h) (Or.inr ⟨by kernel_rfl, rfl⟩) hS ?_
              simp only [List.getElem_toArray, List.getElem_cons_zero, List.getElem_cons_succ, Act.put, List.setIfInBounds_toArray, List.set_cons_zero, List.set_cons_succ]
              refine wpAnyH_take (i := 7) (v := undef) rfl (by kernel_rfl) (by kernel_rfl) (by kernel_rfl) (fun _ _ _ h => h) (Or.inr ⟨by kernel_rfl, rfl⟩) hS ?_
              simp only [List.getElem_toArray, List.getElem_cons_zero, List.getElem_cons_succ, Act.put, List.setIfInBounds_toArray, List.set_cons_zero, List.set_cons_succ]
              refine wpAnyH_take (i := 8) (v := undef) rfl (by kernel_rfl) (by kernel_rfl) (by kernel_rfl) (fun _ _ _ h => h) (Or.inr ⟨by kernel_rfl, rfl⟩) hS ?_
              simp only [List.getElem_toArray, List.getElem_cons_zero, List.getElem_cons_succ, Act.put, List.setIfInBounds_toArray, List.set_cons_zero, List.set_cons_succ]
              refine wpAnyH_take (i := 9) (v := undef) rfl (by kernel_rfl) (by kernel_rfl) (by kernel_rfl) (fun _ _ _ h => h) (Or.inr ⟨by kernel_rfl, rfl⟩) hS ?_
              simp only [List.getElem_toArray, List.getElem_cons_zero, List.getElem_cons_succ, Act.put, List.setIfInBounds_toArray, List.set_cons_zero, List.set_cons_succ]
              refine wpAnyH_take (i := 10) (v := undef) rfl (by kernel_rfl) (by kernel_rfl) (by kernel_rfl) (fun _ _ _ h => h) (Or.inr ⟨by kernel_rfl, rfl⟩) hS ?_
              simp only [List.getElem_toArray, List.getElem_cons_zero, List.getElem_cons_succ, Act.put, List.setIfInBounds_toArray, List.set_cons_zero, List.set_cons_succ]
              refine wpAnyH_take (i := 11) (v := undef) rfl (by kernel_rfl) (by kernel_rfl) (by kernel_rfl) (fun _ _ _ h => h) (Or.inr ⟨by kernel_rfl, rfl⟩) hS ?_
              simp only [List.getElem_toArray, List.getElem_cons_zero, List.getElem_cons_succ, Act.put, List.setIfInBounds_toArray, List.set_cons_zero, List.set_cons_succ]
              refine wpAnyH_take (i := 12) (v := undef) rfl (by kernel_rfl) (by kernel_rfl) (by kernel_rfl) (fun _ _ _ h => h) (Or.inr ⟨by kernel_rfl, rfl⟩) hS ?_
              simp only [List.getElem_toArray, List.getElem_cons_zero, List.getElem_cons_succ, Act.put, List.setIfInBounds_toArray, List.set_cons_zero, List.set_cons_succ]
              refine wpAnyH_take (i := 13) (v := ?_) rfl (by kernel_rfl) (by kernel_rfl) (by kernel_rfl) (fun _ _ _ h => h) (Or.inl ⟨by kernel_rfl, ?_⟩) hS ?_
              rotate_left
              · intro w' hSw
                obtain ⟨g0, g1, g2, _⟩ := hSw
                first | (go_simp; done) | (go_simp; with_reducible rfl)
              simp only [List.getElem_toArray, List.getElem_cons_zero, List.getElem_cons_succ, Act.put, List.setIfInBounds_toArray, List.set_cons_zero, List.set_cons_succ]
              refine wpAnyH_done (by kernel_rfl) ?_ _
              go_wp2_with fail
              go_meet
              exact ⟨rfl, hS.2.2.2⟩
            case rest => as_aux_lemma =>
              obtain ⟨rfl, hgx⟩ := hcut
              have HZ := Lib.hid (grownBy_trans HR.out.1 (grownBy_trans H3.out.1 hgx))
              clear hgx c0 c1 c2
              go_wp2_with fail
              go_ret
              exact ⟨ret_no (fun h => HQ.out h.2.2.2.1.2.2.1), HZ.out⟩
          · by_cases g2 : strL q b.length = b
            · have HQ := Lib.hid (HN.out ⟨by dsimp only; omega, g2.symm⟩)
              have hst := g2
              clear g2
              go_cut [98] (fun s98 wx => s98 = .bool false ∧ w3.grownBy wx none)
              case first => as_aux_lemma =>
                refine wp_region_held_drew (S := fun w' => w'.cell? ⟨P, 0, none⟩ = some (.int .i64 q) ∧ w'.cell? ⟨P, 1, none⟩ = some (.string ⟨b.toArray⟩) ∧ w'.cell? ⟨B, 9, none⟩ = some (.int .i64 n) ∧ w3.grownBy w' none) (by kernel_rfl) (by have hd : w3.grownBy w3.drew none := ⟨rfl, rfl, rfl, Nat.le_refl _, fun _ _ _ => rfl⟩; exact ⟨(hd).cell c0 (by simp), (hd).cell c1 (by simp), (hd).cell c2 (by simp), hd⟩) (fun hS => ?_)
                refine wpAnyH_take (i := 0) (v := ?_) rfl (by kernel_rfl) (by kernel_rfl) (by kernel_rfl) (fun _ _ _ h => h) (Or.inl ⟨by kernel_rfl, ?_⟩) hS ?_
                rotate_left
                · intro w' hSw
                  obtain ⟨g0, g1, g2, _⟩ := hSw
                  first | (go_simp; done) | (go_simp; with_reducible rfl)
                simp only [List.getElem_toArray, List.getElem_cons_zero, Act.put, List.setIfInBounds_toArray, List.set_cons_zero, List.set_cons_succ]
                refine wpAnyH_take (i := 1) (v := ?_) rfl (by kernel_rfl) (by kernel_rfl) (by kernel_rfl) (fun _ _ _ h => h) (Or.inl ⟨by kernel_rfl, ?_⟩) hS ?_
                rotate_left
                · intro w' hSw
                  obtain ⟨g0, g1, g2, _⟩ := hSw
                  first | (go_simp; done) | (go_simp; with_reducible rfl)
                simp only [List.getElem_toArray, List.getElem_cons_zero, List.getElem_cons_succ, Act.put, List.setIfInBounds_toArray, List.set_cons_zero, List.set_cons_succ]
                refine wpAnyH_take (i := 2) (v := ?_) rfl (by kernel_rfl) (by kernel_rfl) (by kernel_rfl) (fun _ _ _ h => h) (Or.inl ⟨by kernel_rfl, ?_⟩) hS ?_
                rotate_left
                · intro w' hSw
                  obtain ⟨g0, g1, g2, _⟩ := hSw
                  first | (go_simp; done) | (go_simp; with_reducible rfl)
                simp only [List.getElem_toArray, List.getElem_cons_zero, List.getElem_cons_succ, Act.put, List.setIfInBounds_toArray, List.set_cons_zero, List.set_cons_succ]
                refine wpAnyH_take (i := 3) (v := ?_) rfl (by kernel_rfl) (by kernel_rfl) (by kernel_rfl) (fun _ _ _ h => h) (Or.inl ⟨by kernel_rfl, ?_⟩) hS ?_
                rotate_left
                · intro w' hSw
                  obtain ⟨g0, g1, g2, _⟩ := hSw
                  first | (go_simp; done) | (go_simp; with_reducible rfl)
                simp only [List.getElem_toArray, List.getElem_cons_zero, List.getElem_cons_succ, Act.put, List.setIfInBounds_toArray, List.set_cons_zero, List.set_cons_succ]
                refine wpAnyH_take (i := 4) (v := ?_) rfl (by kernel_rfl) (by kernel_rfl) (by kernel_rfl) (fun _ _ _ h => h) (Or.inl ⟨by kernel_rfl, ?_⟩) hS ?_
                rotate_left
                · intro w' hSw
                  obtain ⟨g0, g1, g2, _⟩ := hSw
                  first | (go_simp; done) | (go_simp; with_reducible rfl)
                simp only [List.getElem_toArray, List.getElem_cons_zero, List.getElem_cons_succ, Act.put, List.setIfInBounds_toArray, List.set_cons_zero, List.set_cons_succ]
                refine wpAnyH_take (i := 5) (v := ?_) rfl (by kernel_rfl) (by kernel_rfl) (by kernel_rfl) (fun _ _ _ h => h) (Or.inl ⟨by kernel_rfl, ?_⟩) hS ?_
                rotate_left
                · intro w' hSw
                  obtain ⟨g0, g1, g2, _⟩ := hSw
                  first | (go_simp; done) | (go_simp; with_reducible rfl)
                simp only [List.getElem_toArray, List.getElem_cons_zero, List.getElem_cons_succ, Act.put, List.setIfInBounds_toArray, List.set_cons_zero, List.set_cons_succ]
                refine wpAnyH_take (i := 6) (v := ?_) rfl (by kernel_rfl) (by kernel_rfl) (by kernel_rfl) (fun _ _ _ h => h) (Or.inl ⟨by kernel_rfl, ?_⟩) hS ?_
                rotate_left
                · intro w' hSw
                  obtain ⟨g0, g1, g2, _⟩ := hSw
                  first | (go_simp; done) | (go_simp; with_reducible rfl)
                simp only [List.getElem_toArray, List.getElem_cons_zero, List.getElem_cons_succ, Act.put, List.setIfInBounds_toArray, List.set_cons_zero, List.set_cons_succ]
                refine wpAnyH_take (i := 7) (v := ?_) rfl (by kernel_rfl) (by kernel_rfl) (by kernel_rfl) (fun _ _ _ h => h) (Or.inl ⟨by kernel_rfl, ?_⟩) hS ?_
                rotate_left
                · intro w' hSw
                  obtain ⟨g0, g1, g2, _⟩ := hSw
                  first | (go_simp; done) | (go_simp; with_reducible rfl)
                simp only [List.getElem_toArray, List.getElem_cons_zero, List.getElem_cons_succ, Act.put, List.setIfInBounds_toArray, List.set_cons_zero, List.set_cons_succ]
                refine wpAnyH_take (i := 8) (v := ?_) rfl (by kernel_rfl) (by kernel_rfl) (by kernel_rfl) (fun _ _ _ h => h) (Or.inl ⟨by kernel_rfl, ?_⟩) hS ?_
                rotate_left
                · intro w' hSw
                  obtain ⟨g0, g1, g2, _⟩ := hSw
                  first | (go_simp; done) | (go_simp; with_reducible rfl)
                simp only [List.getElem_toArray, List.getElem_cons_zero, List.getElem_cons_succ, Act.put, List.setIfInBounds_toArray, List.set_cons_zero, List.set_cons_succ]
                refine wpAnyH_take (i := 9) (v := ?_) rfl (by kernel_rfl) (by kernel_rfl) (by kernel_rfl) (fun _ _ _ h => h) (Or.inl ⟨by kernel_rfl, ?_⟩) hS ?_
                rotate_left
                · intro w' hSw
                  obtain ⟨g0, g1, g2, _⟩ := hSw
                  first | (go_simp; done) | (go_simp; with_reducible rfl)
                simp only [List.getElem_toArray, List.getElem_cons_zero, List.getElem_cons_succ, Act.put, List.setIfInBounds_toArray, List.set_cons_zero, List.set_cons_succ]
                refine wpAnyH_take (i := 10) (v := ?_) rfl (by kernel_rfl) (by kernel_rfl) (by kernel_rfl) (fun _ _ _ h => h) (Or.inl ⟨by kernel_rfl, ?_⟩) hS ?_
                rotate_left
                · intro w' hSw
                  obtain ⟨g0, g1, g2, _⟩ := hSw
                  first | (go_simp; done) | (go_simp; with_reducible rfl)
                simp only [List.getElem_toArray, List.getElem_cons_zero, List.getElem_cons_succ, Act.put, List.setIfInBounds_toArray, List.set_cons_zero, List.set_cons_succ]
                refine wpAnyH_ready (rs := [11]) (by kernel_rfl) (List.cons_ne_nil _ _) ?_
                refine AllReadyH.cons rfl (fun K hK => ?_) AllReadyH.nil
                go_simp
                go_at_call 35
                refine (data_S q (q + (b.length : Int)) _ hq0 (by omega) (by omega)).mono ?_
                rintro e u1 ⟨rfl, hg⟩
                rw [hlen]
                rw [hst]
                have hF := grownBy_trans (hS.2.2.2) hg
                clear hg
                refine hK.out _ _ (⟨(hF).cell c0 (by simp), (hF).cell c1 (by simp), (hF).cell c2 (by simp), hF⟩) (fun hS => ?_)
                clear hF
                clear hK
                try simp only [List.getElem_toArray, List.getElem_cons_zero, List.getElem_cons_succ, Act.put, List.setIfInBounds_toArray, List.set_cons_zero, List.set_cons_succ]
                refine wpAnyH_take (i := 12) (v := ?_) rfl (by kernel_rfl) (by kernel_rfl) (by kernel_rfl) (fun _ _ _ h => h) (Or.inl ⟨by kernel_rfl, ?_⟩) hS ?_
                rotate_left
                · intro w' hSw
                  obtain ⟨g0, g1, g2, _⟩ := hSw
                  first | (go_simp; done) | (go_simp; with_reducible rfl)
                simp only [List.getElem_toArray, List.getElem_cons_zero, List.getElem_cons_succ, Act.put, List.setIfInBounds_toArray, List.set_cons_zero, List.set_cons_succ]
                refine wpAnyH_take (i := 13) (v := ?_) rfl (by kernel_rfl) (by kernel_rfl) (by kernel_rfl) (fun _ _ _ h => h) (Or.inl ⟨by kernel_rfl, ?_⟩) hS ?_
                rotate_left
                · intro w' hSw
                  obtain ⟨g0, g1, g2, _⟩ := hSw
                  first | (go_simp; done) | (go_simp; with_reducible rfl)
                simp only [List.getElem_toArray, List.getElem_cons_zero, List.getElem_cons_succ, Act.put, List.setIfInBounds_toArray, List.set_cons_zero, List.set_cons_succ]
                refine wpAnyH_done (by kernel_rfl) ?_ _
                go_wp2_with fail
                go_meet
                exact ⟨rfl, hS.2.2.2⟩
              case rest => as_aux_lemma =>
                obtain ⟨rfl, hgx⟩ := hcut
                have HZ := Lib.hid (grownBy_trans HS.out.1 (grownBy_trans H3.out.1 hgx))
                clear hgx c0 c1 c2 hst
                go_wp2_with fail
                go_roundw
                case rel => exact ⟨j + 1, hlt, by go_num, HZ.out, HQ.out⟩
                case measure => simp [intOf]; omega
            · have HQ := Lib.hid (HM.out (fun h => g2 h.2.symm))
              obtain ⟨sx, hst⟩ : ∃ sx, strL q b.length = sx := ⟨_, rfl⟩
              rw [hst] at g2
              have hb2 : (b == sx) = false := by simp only [beq_eq_false_iff_ne]; exact fun e => g2 e.symm
              have hb3 : (b != sx) = true := by simp only [bne, hb2, Bool.not_false]
              clear g2
              go_cut [98] (fun s98 wx => s98 = .bool true ∧ w3.grownBy wx none)
              case first => as_aux_lemma =>
                refine wp_region_held_drew (S := fun w' => w'.cell? ⟨P, 0, none⟩ = some (.int .i64 q) ∧ w'.cell? ⟨P, 1, none⟩ = some (.string ⟨b.toArray⟩) ∧ w'.cell? ⟨B, 9, none⟩ = some (.int .i64 n) ∧ w3.grownBy w' none) (by kernel_rfl) (by have hd : w3.grownBy w3.drew none := ⟨rfl, rfl, rfl, Nat.le_refl _, fun _ _ _ => rfl⟩; exact ⟨(hd).cell c0 (by simp), (hd).cell c1 (by simp), (hd).cell c2 (by simp), hd⟩) (fun hS => ?_)
                refine wpAnyH_take (i := 0) (v := ?_) rfl (by kernel_rfl) (by kernel_rfl) (by kernel_rfl) (fun _ _ _ h => h) (Or.inl ⟨by kernel_rfl, ?_⟩) hS ?_
                rotate_left
                · intro w' hSw
                  obtain ⟨g0, g1, g2, _⟩ := hSw
                  first | (go_simp; done) | (go_simp; with_reducible rfl)
                simp only [List.getElem_toArray, List.getElem_cons_zero, Act.put, List.setIfInBounds_toArray, List.set_cons_zero, List.set_cons_succ]
                refine wpAnyH_take (i := 1) (v := ?_) rfl (by kernel_rfl) (by kernel_rfl) (by kernel_rfl) (fun _ _ _ h => h) (Or.inl ⟨by kernel_rfl, ?_⟩) hS ?_
                rotate_left
                · intro w' hSw
                  obtain ⟨g0, g1, g2, _⟩ := hSw
                  first | (go_simp; done) | (go_simp; with_reducible rfl)
                simp only [List.getElem_toArray, List.getElem_cons_zero, List.getElem_cons_succ, Act.put, List.setIfInBounds_toArray, List.set_cons_zero, List.set_cons_succ]
                refine wpAnyH_take (i := 2) (v := ?_) rfl (by kernel_rfl) (by kernel_rfl) (by kernel_rfl) (fun _ _ _ h => h) (Or.inl ⟨by kernel_rfl, ?_⟩) hS ?_
                rotate_left
                · intro w' hSw
                  obtain ⟨g0, g1, g2, _⟩ := hSw
                  first | (go_simp; done) | (go_simp; with_reducible rfl)
                simp only [List.getElem_toArray, List.getElem_cons_zero, List.getElem_cons_succ, Act.put, List.setIfInBounds_toArray, List.set_cons_zero, List.set_cons_succ]
                refine wpAnyH_take (i := 3) (v := ?_) rfl (by kernel_rfl) (by kernel_rfl) (by kernel_rfl) (fun _ _ _ h => h) (Or.inl ⟨by kernel_rfl, ?_⟩) hS ?_
                rotate_left
                · intro w' hSw
                  obtain ⟨g0, g1, g2, _⟩ := hSw
                  first | (go_simp; done) | (go_simp; with_reducible rfl)
                simp only [List.getElem_toArray, List.getElem_cons_zero, List.getElem_cons_succ, Act.put, List.setIfInBounds_toArray, List.set_cons_zero, List.set_cons_succ]
                refine wpAnyH_take (i := 4) (v := ?_) rfl (by kernel_rfl) (by kernel_rfl) (by kernel_rfl) (fun _ _ _ h => h) (Or.inl ⟨by kernel_rfl, ?_⟩) hS ?_
                rotate_left
                · intro w' hSw
                  obtain ⟨g0, g1, g2, _⟩ := hSw
                  first | (go_simp; done) | (go_simp; with_reducible rfl)
                simp only [List.getElem_toArray, List.getElem_cons_zero, List.getElem_cons_succ, Act.put, List.setIfInBounds_toArray, List.set_cons_zero, List.set_cons_succ]
                refine wpAnyH_take (i := 5) (v := ?_) rfl (by kernel_rfl) (by kernel_rfl) (by kernel_rfl) (fun _ _ _ h => h) (Or.inl ⟨by kernel_rfl, ?_⟩) hS ?_
                rotate_left
                · intro w' hSw
                  obtain ⟨g0, g1, g2, _⟩ := hSw
                  first | (go_simp; done) | (go_simp; with_reducible rfl)
                simp only [List.getElem_toArray, List.getElem_cons_zero, List.getElem_cons_succ, Act.put, List.setIfInBounds_toArray, List.set_cons_zero, List.set_cons_succ]
                refine wpAnyH_take (i := 6) (v := ?_) rfl (by kernel_rfl) (by kernel_rfl) (by kernel_rfl) (fun _ _ _ h => h) (Or.inl ⟨by kernel_rfl, ?_⟩) hS ?_
                rotate_left
                · intro w' hSw
                  obtain ⟨g0, g1, g2, _⟩ := hSw
                  first | (go_simp; done) | (go_simp; with_reducible rfl)
                simp only [List.getElem_toArray, List.getElem_cons_zero, List.getElem_cons_succ, Act.put, List.setIfInBounds_toArray, List.set_cons_zero, List.set_cons_succ]
                refine wpAnyH_take (i := 7) (v := ?_) rfl (by kernel_rfl) (by kernel_rfl) (by kernel_rfl) (fun _ _ _ h => h) (Or.inl ⟨by kernel_rfl, ?_⟩) hS ?_
                rotate_left
                · intro w' hSw
                  obtain ⟨g0, g1, g2, _⟩ := hSw
                  first | (go_simp; done) | (go_simp; with_reducible rfl)
                simp only [List.getElem_toArray, List.getElem_cons_zero, List.getElem_cons_succ, Act.put, List.setIfInBounds_toArray, List.set_cons_zero, List.set_cons_succ]
                refine wpAnyH_take (i := 8) (v := ?_) rfl (by kernel_rfl) (by kernel_rfl) (by kernel_rfl) (fun _ _ _ h => h) (Or.inl ⟨by kernel_rfl, ?_⟩) hS ?_
                rotate_left
                · intro w' hSw
                  obtain ⟨g0, g1, g2, _⟩ := hSw
                  first | (go_simp; done) | (go_simp; with_reducible rfl)
                simp only [List.getElem_toArray, List.getElem_cons_zero, List.getElem_cons_succ, Act.put, List.setIfInBounds_toArray, List.set_cons_zero, List.set_cons_succ]
                refine wpAnyH_take (i := 9) (v := ?_) rfl (by kernel_rfl) (by kernel_rfl) (by kernel_rfl) (fun _ _ _ h => h) (Or.inl ⟨by kernel_rfl, ?_⟩) hS ?_
                rotate_left
                · intro w' hSw
                  obtain ⟨g0, g1, g2, _⟩ := hSw
                  first | (go_simp; done) | (go_simp; with_reducible rfl)
                simp only [List.getElem_toArray, List.getElem_cons_zero, List.getElem_cons_succ, Act.put, List.setIfInBounds_toArray, List.set_cons_zero, List.set_cons_succ]
                refine wpAnyH_take (i := 10) (v := ?_) rfl (by kernel_rfl) (by kernel_rfl) (by kernel_rfl) (fun _ _ _ h => h) (Or.inl ⟨by kernel_rfl, ?_⟩) hS ?_
                rotate_left
                · intro w' hSw
                  obtain ⟨g0, g1, g2, _⟩ := hSw
                  first | (go_simp; done) | (go_simp; with_reducible rfl)
                simp only [List.getElem_toArray, List.getElem_cons_zero, List.getElem_cons_succ, Act.put, List.setIfInBounds_toArray, List.set_cons_zero, List.set_cons_succ]
                refine wpAnyH_ready (rs := [11]) (by kernel_rfl) (List.cons_ne_nil _ _) ?_
                refine AllReadyH.cons rfl (fun K hK => ?_) AllReadyH.nil
                go_simp
                go_at_call 35
                refine (data_S q (q + (b.length : Int)) _ hq0 (by omega) (by omega)).mono ?_
                rintro e u1 ⟨rfl, hg⟩
                rw [hlen]
                rw [hst]
                have hF := grownBy_trans (hS.2.2.2) hg
                clear hg
                refine hK.out _ _ (⟨(hF).cell c0 (by simp), (hF).cell c1 (by simp), (hF).cell c2 (by simp), hF⟩) (fun hS => ?_)
                clear hF
                clear hK
                try simp only [List.getElem_toArray, List.getElem_cons_zero, List.getElem_cons_succ, Act.put, List.setIfInBounds_toArray, List.set_cons_zero, List.set_cons_succ]
                refine wpAnyH_take (i := 12) (v := ?_) rfl (by kernel_rfl) (by kernel_rfl) (by kernel_rfl) (fun _ _ _ h => h) (Or.inl ⟨by kernel_rfl, ?_⟩) hS ?_
                rotate_left
                · intro w' hSw
                  obtain ⟨g0, g1, g2, _⟩ := hSw
                  first | (go_simp; done) | (go_simp; with_reducible rfl)
                simp only [List.getElem_toArray, List.getElem_cons_zero, List.getElem_cons_succ, Act.put, List.setIfInBounds_toArray, List.set_cons_zero, List.set_cons_succ]
                refine wpAnyH_take (i := 13) (v := ?_) rfl (by kernel_rfl) (by kernel_rfl) (by kernel_rfl) (fun _ _ _ h => h) (Or.inl ⟨by kernel_rfl, ?_⟩) hS ?_
                rotate_left
                · intro w' hSw
                  obtain ⟨g0, g1, g2, _⟩ := hSw
                  first | (go_simp; done) | (go_simp; with_reducible rfl)
                simp only [List.getElem_toArray, List.getElem_cons_zero, List.getElem_cons_succ, Act.put, List.setIfInBounds_toArray, List.set_cons_zero, List.set_cons_succ]
                refine wpAnyH_done (by kernel_rfl) ?_ _
                go_wp2_with fail
                go_meet
                exact ⟨rfl, hS.2.2.2⟩
              case rest => as_aux_lemma =>
                obtain ⟨rfl, hgx⟩ := hcut
                have HZ := Lib.hid (grownBy_trans HR.out.1 (grownBy_trans H3.out.1 hgx))
                clear hgx c0 c1 c2 hst hb2 hb3
                go_wp2_with fail
                go_ret
                exact ⟨ret_no (fun h => HQ.out h.2.2.2.1.2.2.1), HZ.out⟩
        · obtain rfl : j = gl.length := by omega
          have HQP := Lib.hid (show ∀ p ∈ gl, pieceW n p by have h2 := HS.out.2; rw [List.take_length] at h2; exact h2)
          have p8 := HR.out.2.2.c 8 rfl
          have gX := World.grownBy_alloc wr (.cells #[.int .i64 0, .int .i64 u] 44) none
          have H4 := Lib.hid (And.intro (grownBy_trans HR.out.1 gX) (And.intro (HR.out.2.1.kept gX) (And.intro (HR.out.2.2.keep gX) (Bx.new wr 44 #[.int .i64 0, .int .i64 u]))))
          clear gX
          go_upto_region 11 with fail
          clear p11 p8 HR HS
          generalize wr.alloc (.cells #[.int .i64 0, .int .i64 u] 44) = w4 at *
          generalize wr.heap.size = P at *
          have p8 := H4.out.2.2.1.c 8 rfl
          have p11 := H4.out.2.2.1.c 11 rfl
          have c0 := H4.out.2.2.2.c 0 rfl
          have c1 := H4.out.2.2.2.c 1 rfl
          obtain ⟨b6, hb6⟩ : ∃ b6 : Bool, b6 = true ↔ ((prefL gl).length : Int) < u := ⟨decide (((prefL gl).length : Int) < u), by simp only [decide_eq_true_eq]⟩
          have H6 := Lib.hid hb6
          clear hb6
          go_cut [113] (fun s113 wx => s113 = .bool b6 ∧ w4.grownBy wx none)
          case first => as_aux_lemma =>
            by_cases hup : 0 < u
            · have HPH := Lib.hid (pre_had HP.out u hup)
              go_wp2_with fail
              refine (had_S ga gc gl 0 u _ H4.out.2.1.g (by omega) HP.out.2.1).mono ?_
              rintro e w5 ⟨rfl, hg⟩
              have H5 := Lib.hid hg
              clear hg
              by_cases hh : hadL gl (0, u)
              · rw [decide_eq_true hh]
                have HH := Lib.hid (HPH.out.2 hh)
                clear hh
                go_wp2_with fail
                go_meet
                exact ⟨congrArg Value.bool (Bool.eq_false_iff.2 (fun h => by have h2 := H6.out.1 h; have h3 := HH.out; omega)).symm, H5.out⟩
              · rw [decide_eq_false hh]
                have HH := Lib.hid (show ((prefL gl).length : Int) < u from Int.not_le.1 (fun h => hh (HPH.out.1 h)))
                clear hh
                go_wp2_with fail
                go_meet
                exact ⟨congrArg Value.bool (H6.out.2 HH.out).symm, H5.out⟩
            · have HH := Lib.hid (show u ≤ ((prefL gl).length : Int) by omega)
              go_wp2_with fail
              go_meet
              exact ⟨congrArg Value.bool (Bool.eq_false_iff.2 (fun h => by have h2 := H6.out.1 h; have h3 := HH.out; omega)).symm, World.grownBy.refl _ _⟩
          case rest => as_aux_lemma =>
            obtain ⟨rfl, hgx⟩ := hcut
            have H5 := Lib.hid (And.intro (grownBy_trans H4.out.1 hgx) (And.intro (H4.out.2.1.kept hgx) (H4.out.2.2.1.keep hgx)))
            clear hgx H4 p8 p11 c0 c1
            generalize hwc : wc = w5 at *
            clear hwc
            cases b6
            rotate_left
            · have HN := Lib.hid (H6.out.1 rfl)
              go_wp2_with fail
              go_ret
              exact ⟨ret_no (fun h => by have h2 := h.2.2.2.1.2.1; have h3 := HN.out; omega), H5.out.1⟩
            · have HU := Lib.hid (show u ≤ ((prefL gl).length : Int) from Int.not_lt.1 fun h => absurd (H6.out.2 h) (by decide))
              clear H6
              go_wp2_with fail
              go_loopw [7] (fun i wr => WsRel w5 gl sl i wr) (fun i _ => sl.length - (intOf i).toNat)
              case atStart => exact ⟨0, Nat.zero_le _, rfl, World.grownBy.refl _ _, by simp⟩
              case round => as_aux_lemma =>
                obtain ⟨j, hj, rfl, hg, hin⟩ := hrel
                have HS := Lib.hid (And.intro hg hin)
                clear hg hin
                have HR := Lib.hid (And.intro (grownBy_trans H5.out.1 HS.out.1) (And.intro (H5.out.2.1.kept HS.out.1) (H5.out.2.2.keep HS.out.1)))
                have c0 := HR.out.2.2.c 10 rfl
                by_cases hlt : j < sl.length
                · obtain ⟨b1, off1, rfl, c2, c3⟩ := rg_cells HR.out.2.1.s hlt
                  have HN := Lib.hid (fun h => all_more (P := fun x => hadL gl x) sl j hlt HS.out.2 h)
                  have HM := Lib.hid (fun h => all_not (P := fun x => hadL gl x) sl j hlt h)
                  generalize sl[j] = x at *
                  obtain ⟨x1, x2⟩ := x
                  dsimp only at c2 c3
                  have hlt' : (j : Int) < (sl.length : Int) := by omega
                  have hj0 : (0 : Int) ≤ (j : Int) := by omega
                  have c1 := HR.out.2.2.c 11 rfl
                  go_upto_region 16 with fail
                  by_cases hh : hadL gl (x1, x2)
                  · have hd := decide_eq_true hh
                    have HQ := Lib.hid (HN.out hh)
                    clear hh
                    go_cut [131] (fun s131 wx => s131 = .bool false ∧ wr.grownBy wx none)
                    case first => as_aux_lemma =>
                      refine wp_region_held_drew (S := fun w' => w'.cell? ⟨B, 10, none⟩ = some (.slice (some ⟨b1, off1, none⟩) sl.length sc) ∧ w'.cell? ⟨B, 11, none⟩ = some (.slice ga gl.length gc) ∧ w'.cell? ⟨b1, off1 + j * 2, none⟩ = some (.int .i64 x1) ∧ w'.cell? ⟨b1, off1 + j * 2 + 1, none⟩ = some (.int .i64 x2) ∧ wr.grownBy w' none) (by kernel_rfl) (by have hd : wr.grownBy wr.drew none := ⟨rfl, rfl, rfl, Nat.le_refl _, fun _ _ _ => rfl⟩; exact ⟨(hd).cell c0 (by simp), (hd).cell c1 (by simp), (hd).cell c2 (by simp), (hd).cell c3 (by simp), hd⟩) (fun hS => ?_)
                      refine wpAnyH_take (i := 0) (v := ?_) rfl (by kernel_rfl) (by kernel_rfl) (by kernel_rfl) (fun _ _ _ h => h) (Or.inl ⟨by kernel_rfl, ?_⟩) hS ?_
                      rotate_left
                      · intro w' hSw
                        obtain ⟨g0, g1, g2, g3, _⟩ := hSw
                        first | (go_simp; done) | (go_simp; with_reducible rfl)
                      simp only [List.getElem_toArray, List.getElem_cons_zero, Act.put, List.setIfInBounds_toArray, List.set_cons_zero, List.set_cons_succ]
                      refine wpAnyH_take (i := 1) (v := ?_) rfl (by kernel_rfl) (by kernel_rfl) (by kernel_rfl) (fun _ _ _ h => h) (Or.inl ⟨by kernel_rfl, ?_⟩) hS ?_
                      rotate_left
                      · intro w' hSw
                        obtain ⟨g0, g1, g2, g3, _⟩ := hSw
                        first | (go_simp; done) | (go_simp; with_reducible rfl)
                      simp only [List.getElem_toArray, List.getElem_cons_zero, List.getElem_cons_succ, Act.put, List.setIfInBounds_toArray, List.set_cons_zero, List.set_cons_succ]
                      refine wpAnyH_take (i := 2) (v := ?_) rfl (by kernel_rfl) (by kernel_rfl) (by kernel_rfl) (fun _ _ _ h => h) (Or.inl ⟨by kernel_rfl, ?_⟩) hS ?_
                      rotate_left
                      · intro w' hSw
                        obtain ⟨g0, g1, g2, g3, _⟩ := hSw
                        first | (go_simp; done) | (go_simp; with_reducible rfl)
                      simp only [List.getElem_toArray, List.getElem_cons_zero, List.getElem_cons_succ, Act.put, List.setIfInBounds_toArray, List.set_cons_zero, List.set_cons_succ]
                      refine wpAnyH_take (i := 3) (v := ?_) rfl (by kernel_rfl) (by kernel_rfl) (by kernel_rfl) (fun _ _ _ h => h) (Or.inl ⟨by kernel_rfl, ?_⟩) hS ?_
                      rotate_left
                      · intro w' hSw
                        obtain ⟨g0, g1, g2, g3, _⟩ := hSw
                        first | (go_simp; done) | (go_simp; with_reducible rfl)
                      simp only [List.getElem_toArray, List.getElem_cons_zero, List.getElem_cons_succ, Act.put, List.setIfInBounds_toArray, List.set_cons_zero, List.set_cons_succ]
                      refine wpAnyH_take (i := 4) (v := ?_) rfl (by kernel_rfl) (by kernel_rfl) (by kernel_rfl) (fun _ _ _ h => h) (Or.inl ⟨by kernel_rfl, ?_⟩) hS ?_
                      rotate_left
                      · intro w' hSw
                        obtain ⟨g0, g1, g2, g3, _⟩ := hSw
                        first | (go_simp; done) | (go_simp; with_reducible rfl)
                      simp only [List.getElem_toArray, List.getElem_cons_zero, List.getElem_cons_succ, Act.put, List.setIfInBounds_toArray, List.set_cons_zero, List.set_cons_succ]
                      refine wpAnyH_take (i := 5) (v := ?_) rfl (by kernel_rfl) (by kernel_rfl) (by kernel_rfl) (fun _ _ _ h => h) (Or.inl ⟨by kernel_rfl, ?_⟩) hS ?_
                      rotate_left
                      · intro w' hSw
                        obtain ⟨g0, g1, g2, g3, _⟩ := hSw
                        first | (go_simp; done) | (go_simp; with_reducible rfl)
                      simp only [List.getElem_toArray, List.getElem_cons_zero, List.getElem_cons_succ, Act.put, List.setIfInBounds_toArray, List.set_cons_zero, List.set_cons_succ]
                      refine wpAnyH_take (i := 6) (v := ?_) rfl (by kernel_rfl) (by kernel_rfl) (by kernel_rfl) (fun _ _ _ h => h) (Or.inl ⟨by kernel_rfl, ?_⟩) hS ?_
                      rotate_left
                      · intro w' hSw
                        obtain ⟨g0, g1, g2, g3, _⟩ := hSw
                        first | (go_simp; done) | (go_simp; with_reducible rfl)
                      simp only [List.getElem_toArray, List.getElem_cons_zero, List.getElem_cons_succ, Act.put, List.setIfInBounds_toArray, List.set_cons_zero, List.set_cons_succ]
                      refine wpAnyH_take (i := 7) (v := ?_) rfl (by kernel_rfl) (by kernel_rfl) (by kernel_rfl) (fun _ _ _ h => h) (Or.inl ⟨by kernel_rfl, ?_⟩) hS ?_
                      rotate_left
                      · intro w' hSw
                        obtain ⟨g0, g1, g2, g3, _⟩ := hSw
                        first | (go_simp; done) | (go_simp; with_reducible rfl)
                      simp only [List.getElem_toArray, List.getElem_cons_zero, List.getElem_cons_succ, Act.put, List.setIfInBounds_toArray, List.set_cons_zero, List.set_cons_succ]
                      refine wpAnyH_ready (rs := [8]) (by kernel_rfl) (List.cons_ne_nil _ _) ?_
                      refine AllReadyH.cons rfl (fun K hK => ?_) AllReadyH.nil
                      go_simp
                      go_at_call 36
                      refine (had_S ga gc gl x1 x2 _ (HR.out.2.1.g.kept (hS.2.2.2.2)) (by omega) HP.out.2.1).mono ?_
                      rintro e u1 ⟨rfl, hg⟩
                      rw [hd]
                      have hF := grownBy_trans (hS.2.2.2.2) hg
                      clear hg
                      refine hK.out _ _ (⟨(hF).cell c0 (by simp), (hF).cell c1 (by simp), (hF).cell c2 (by simp), (hF).cell c3 (by simp), hF⟩) (fun hS => ?_)
                      clear hF
                      clear hK
                      try simp only [List.getElem_toArray, List.getElem_cons_zero, List.getElem_cons_succ, Act.put, List.setIfInBounds_toArray, List.set_cons_zero, List.set_cons_succ]
                      refine wpAnyH_take (i := 9) (v := ?_) rfl (by kernel_rfl) (by kernel_rfl) (by kernel_rfl) (fun _ _ _ h => h) (Or.inl ⟨by kernel_rfl, ?_⟩) hS ?_
                      rotate_left
                      · intro w' hSw
                        obtain ⟨g0, g1, g2, g3, _⟩ := hSw
                        first | (go_simp; done) | (go_simp; with_reducible rfl)
                      simp only [List.getElem_toArray, List.getElem_cons_zero, List.getElem_cons_succ, Act.put, List.setIfInBounds_toArray, List.set_cons_zero, List.set_cons_succ]
                      refine wpAnyH_done (by kernel_rfl) ?_ _
                      go_wp2_with fail
                      go_meet
                      exact ⟨rfl, hS.2.2.2.2⟩
                    case rest => as_aux_lemma =>
                      obtain ⟨rfl, hgx⟩ := hcut
                      have HZ := Lib.hid (grownBy_trans HS.out.1 hgx)
                      clear hgx c0 c1 c2 c3 hd
                      go_wp2_with fail
                      go_roundw
                      case rel => exact ⟨j + 1, hlt, by go_num, HZ.out, HQ.out⟩
                      case measure => simp [intOf]; omega
                  · have hd := decide_eq_false hh
                    have HQ := Lib.hid (HM.out hh)
                    clear hh
                    go_cut [131] (fun s131 wx => s131 = .bool true ∧ wr.grownBy wx none)
                    case first => as_aux_lemma =>
                      refine wp_region_held_drew (S := fun w' => w'.cell? ⟨B, 10, none⟩ = some (.slice (some ⟨b1, off1, none⟩) sl.length sc) ∧ w'.cell? ⟨B, 11, none⟩ = some (.slice ga gl.length gc) ∧ w'.cell? ⟨b1, off1 + j * 2, none⟩ = some (.int .i64 x1) ∧ w'.cell? ⟨b1, off1 + j * 2 + 1, none⟩ = some (.int .i64 x2) ∧ wr.grownBy w' none) (by kernel_rfl) (by have hd : wr.grownBy wr.drew none := ⟨rfl, rfl, rfl, Nat.le_refl _, fun _ _ _ => rfl⟩; exact ⟨(hd).cell c0 (by simp), (hd).cell c1 (by simp), (hd).cell c2 (by simp), (hd).cell c3 (by simp), hd⟩) (fun hS => ?_)
                      refine wpAnyH_take (i := 0) (v := ?_) rfl (by kernel_rfl) (by kernel_rfl) (by kernel_rfl) (fun _ _ _ h => h) (Or.inl ⟨by kernel_rfl, ?_⟩) hS ?_
                      rotate_left
                      · intro w' hSw
                        obtain ⟨g0, g1, g2, g3, _⟩ := hSw
                        first | (go_simp; done) | (go_simp; with_reducible rfl)
                      simp only [List.getElem_toArray, List.getElem_cons_zero, Act.put, List.setIfInBounds_toArray, List.set_cons_zero, List.set_cons_succ]
                      refine wpAnyH_take (i := 1) (v := ?_) rfl (by kernel_rfl) (by kernel_rfl) (by kernel_rfl) (fun _ _ _ h => h) (Or.inl ⟨by kernel_rfl, ?_⟩) hS ?_
                      rotate_left
                      · intro w' hSw
                        obtain ⟨g0, g1, g2, g3, _⟩ := hSw
                        first | (go_simp; done) | (go_simp; with_reducible rfl)
                      simp only [List.getElem_toArray, List.getElem_cons_zero, List.getElem_cons_succ, Act.put, List.setIfInBounds_toArray, List.set_cons_zero, List.set_cons_succ]
                      refine wpAnyH_take (i := 2) (v := ?_) rfl (by kernel_rfl) (by kernel_rfl) (by kernel_rfl) (fun _ _ _ h => h) (Or.inl ⟨by kernel_rfl, ?_⟩) hS ?_
                      rotate_left
                      · intro w' hSw
                        obtain ⟨g0, g1, g2, g3, _⟩ := hSw
                        first | (go_simp; done) | (go_simp; with_reducible rfl)
                      simp only [List.getElem_toArray, List.getElem_cons_zero, List.getElem_cons_succ, Act.put, List.setIfInBounds_toArray, List.set_cons_zero, List.set_cons_succ]
                      refine wpAnyH_take (i := 3) (v := ?_) rfl (by kernel_rfl) (by kernel_rfl) (by kernel_rfl) (fun _ _ _ h => h) (Or.inl ⟨by kernel_rfl, ?_⟩) hS ?_
                      rotate_left
                      · intro w' hSw
                        obtain ⟨g0, g1, g2, g3, _⟩ := hSw
                        first | (go_simp; done) | (go_simp; with_reducible rfl)
                      simp only [List.getElem_toArray, List.getElem_cons_zero, List.getElem_cons_succ, Act.put, List.setIfInBounds_toArray, List.set_cons_zero, List.set_cons_succ]
                      refine wpAnyH_take (i := 4) (v := ?_) rfl (by kernel_rfl) (by kernel_rfl) (by kernel_rfl) (fun _ _ _ h => h) (Or.inl ⟨by kernel_rfl, ?_⟩) hS ?_
                      rotate_left
                      · intro w' hSw
                        obtain ⟨g0, g1, g2, g3, _⟩ := hSw
                        first | (go_simp; done) | (go_simp; with_reducible rfl)
                      simp only [List.getElem_toArray, List.getElem_cons_zero, List.getElem_cons_succ, Act.put, List.setIfInBounds_toArray, List.set_cons_zero, List.set_cons_succ]
                      refine wpAnyH_take (i := 5) (v := ?_) rfl (by kernel_rfl) (by kernel_rfl) (by kernel_rfl) (fun _ _ _ h => h) (Or.inl ⟨by kernel_rfl, ?_⟩) hS ?_
                      rotate_left
                      · intro w' hSw
                        obtain ⟨g0, g1, g2, g3, _⟩ := hSw
                        first | (go_simp; done) | (go_simp; with_reducible rfl)
                      simp only [List.getElem_toArray, List.getElem_cons_zero, List.getElem_cons_succ, Act.put, List.setIfInBounds_toArray, List.set_cons_zero, List.set_cons_succ]
                      refine wpAnyH_take (i := 6) (v := ?_) rfl (by kernel_rfl) (by kernel_rfl) (by kernel_rfl) (fun _ _ _ h => h) (Or.inl ⟨by kernel_rfl, ?_⟩) hS ?_
                      rotate_left
                      · intro w' hSw
                        obtain ⟨g0, g1, g2, g3, _⟩ := hSw
                        first | (go_simp; done) | (go_simp; with_reducible rfl)
                      simp only [List.getElem_toArray, List.getElem_cons_zero, List.getElem_cons_succ, Act.put, List.setIfInBounds_toArray, List.set_cons_zero, List.set_cons_succ]
                      refine wpAnyH_take (i := 7) (v := ?_) rfl (by kernel_rfl) (by kernel_rfl) (by kernel_rfl) (fun _ _ _ h => h) (Or.inl ⟨by kernel_rfl, ?_⟩) hS ?_
                      rotate_left
                      · intro w' hSw
                        obtain ⟨g0, g1, g2, g3, _⟩ := hSw
                        first | (go_simp; done) | (go_simp; with_reducible rfl)
                      simp only [List.getElem_toArray, List.getElem_cons_zero, List.getElem_cons_succ, Act.put, List.setIfInBounds_toArray, List.set_cons_zero, List.set_cons_succ]
                      refine wpAnyH_ready (rs := [8]) (by kernel_rfl) (List.cons_ne_nil _ _) ?_
                      refine AllReadyH.cons rfl (fun K hK => ?_) AllReadyH.nil
                      go_simp
                      go_at_call 36
                      refine (had_S ga gc gl x1 x2 _ (HR.out.2.1.g.kept (hS.2.2.2.2)) (by omega) HP.out.2.1).mono ?_
                      rintro e u1 ⟨rfl, hg⟩
                      rw [hd]
                      have hF := grownBy_trans (hS.2.2.2.2) hg
                      clear hg
                      refine hK.out _ _ (⟨(hF).cell c0 (by simp), (hF).cell c1 (by simp), (hF).cell c2 (by simp), (hF).cell c3 (by simp), hF⟩) (fun hS => ?_)
                      clear hF
                      clear hK
                      try simp only [List.getElem_toArray, List.getElem_cons_zero, List.getElem_cons_succ, Act.put, List.setIfInBounds_toArray, List.set_cons_zero, List.set_cons_succ]
                      refine wpAnyH_take (i := 9) (v := ?_) rfl (by kernel_rfl) (by kernel_rfl) (by kernel_rfl) (fun _ _ _ h => h) (Or.inl ⟨by kernel_rfl, ?_⟩) hS ?_
                      rotate_left
                      · intro w' hSw
                        obtain ⟨g0, g1, g2, g3, _⟩ := hSw
                        first | (go_simp; done) | (go_simp; with_reducible rfl)
                      simp only [List.getElem_toArray, List.getElem_cons_zero, List.getElem_cons_succ, Act.put, List.setIfInBounds_toArray, List.set_cons_zero, List.set_cons_succ]
                      refine wpAnyH_done (by kernel_rfl) ?_ _
                      go_wp2_with fail
                      go_meet
                      exact ⟨rfl, hS.2.2.2.2⟩
                    case rest => as_aux_lemma =>
                      obtain ⟨rfl, hgx⟩ := hcut
                      have HZ := Lib.hid (grownBy_trans HR.out.1 hgx)
                      clear hgx c0 c1 c2 c3 hd
                      go_wp2_with fail
                      go_ret
                      exact ⟨ret_no (fun h => HQ.out h.2.2.2.1.2.2.2), HZ.out⟩
                · obtain rfl : j = sl.length := by omega
                  have HQS := Lib.hid (show hadAll gl sl by have h2 := HS.out.2; rw [List.take_length] at h2; exact h2)
                  go_wp2_with fail
                  clear c0
                  generalize hwc : wr = w6 at *
                  clear hwc HS
                  go_loopw [8] (fun i wr => WdRel w6 n m dl i wr) (fun i _ => dl.length - (intOf i).toNat)
                  case atStart => exact ⟨0, Nat.zero_le _, rfl, World.grownBy.refl _ _, by simp⟩
                  case round => as_aux_lemma =>
                    obtain ⟨j, hj, rfl, hg, hin⟩ := hrel
                    have HS := Lib.hid (And.intro hg hin)
                    clear hg hin
                    have HT := Lib.hid (And.intro (grownBy_trans HR.out.1 HS.out.1) (And.intro (HR.out.2.1.kept HS.out.1) (HR.out.2.2.keep HS.out.1)))
                    have c0 := HT.out.2.2.c 12 rfl
                    by_cases hlt : j < dl.length
                    · obtain ⟨b1, off1, rfl, c2, c3⟩ := rg_cells HT.out.2.1.d hlt
                      have HN := Lib.hid (fun h => all_more (P := fun x => downW n m x) dl j hlt HS.out.2 h)
                      have HM := Lib.hid (fun h => all_not (P := fun x => downW n m x) dl j hlt h)
                      generalize dl[j] = x at *
                      obtain ⟨x1, x2⟩ := x
                      dsimp only at c2 c3
                      have hlt' : (j : Int) < (dl.length : Int) := by omega
                      have hj0 : (0 : Int) ≤ (j : Int) := by omega
                      have gX := World.grownBy_alloc wr (.cells #[.int .i64 x1, .int .i64 x2] 44) none
                      have H7 := Lib.hid (And.intro gX (Bx.new wr 44 #[.int .i64 x1, .int .i64 x2]))
                      clear gX
                      go_upto_region 22 with fail
                      clear c0 c2 c3
                      generalize wr.alloc (.cells #[.int .i64 x1, .int .i64 x2] 44) = w7 at *
                      generalize wr.heap.size = P at *
                      have c0 := H7.out.2.c 0 rfl
                      have c1 := H7.out.2.c 1 rfl
                      have c2 := (HT.out.2.2.keep H7.out.1).c 9 rfl
                      have c3 := (HT.out.2.2.keep H7.out.1).c 1 rfl
                      have hwn : IntKind.i64.wrap (n - 1) = n - 1 := IntWalk.i64_in _ (by omega)
                      go_wp2_with fail
                      refine (in_any x1 0 (n - 1) _).mono ?_
                      rintro e w8 ⟨rfl, rfl⟩
                      cases g1 : inB x1 0 (n - 1)
                      · have k1 := in_not g1
                        have HQ := Lib.hid (HM.out (fun h => by obtain ⟨h1, h2, h3, _⟩ := h; dsimp only at h1 h2 h3; omega))
                        clear k1
                        go_wp2_with fail
                        go_ret
                        exact ⟨ret_no (fun h => HQ.out h.2.2.2.2.1.1), grownBy_trans HT.out.1 H7.out.1⟩
                      · have k1 := in_of g1
                        clear g1
                        have hw1 : IntKind.i64.wrap (x1 + 1) = x1 + 1 := IntWalk.i64_in _ (by omega)
                        have hw2 : IntKind.i64.wrap (x1 + m) = x1 + m := IntWalk.i64_in _ (by omega)
                        by_cases hmn : n ≤ x1 + m
                        · by_cases hmn2 : x1 + m ≤ n
                          · have e1 : ¬ n < x1 + m := by omega
                            have e2 : ¬ x1 + m < n := by omega
                            go_wp2_with fail
                            refine (in_any x2 (x1 + 1) _ _).mono ?_
                            rintro e w9 ⟨rfl, rfl⟩
                            generalize hib : inB x2 (x1 + 1) _ = bi
                            cases bi
                            · have k2 := in_not hib
                              have HQ := Lib.hid (HM.out (fun h => by obtain ⟨h1, h2, h3, h4⟩ := h; dsimp only at h1 h2 h3 h4; omega))
                              clear k2 hib
                              go_wp2_with fail
                              go_ret
                              exact ⟨ret_no (fun h => HQ.out h.2.2.2.2.1.1), grownBy_trans HT.out.1 H7.out.1⟩
                            · have k2 := in_of hib
                              have HQ := Lib.hid (HN.out ⟨by dsimp only; omega, by dsimp only; omega, by dsimp only; omega, by dsimp only; omega⟩)
                              clear k2 hib
                              go_wp2_with fail
                              go_roundw
                              case rel => exact ⟨j + 1, hlt, by go_num, grownBy_trans HS.out.1 H7.out.1, HQ.out⟩
                              case measure => simp [intOf]; omega
                          · have e1 : n < x1 + m := by omega
                            have e2 : ¬ x1 + m < n := by omega
                            go_wp2_with fail
                            refine (in_any x2 (x1 + 1) _ _).mono ?_
                            rintro e w9 ⟨rfl, rfl⟩
                            generalize hib : inB x2 (x1 + 1) _ = bi
                            cases bi
                            · have k2 := in_not hib
                              have HQ := Lib.hid (HM.out (fun h => by obtain ⟨h1, h2, h3, h4⟩ := h; dsimp only at h1 h2 h3 h4; omega))
                              clear k2 hib
                              go_wp2_with fail
                              go_ret
                              exact ⟨ret_no (fun h => HQ.out h.2.2.2.2.1.1), grownBy_trans HT.out.1 H7.out.1⟩
                            · have k2 := in_of hib
                              have HQ := Lib.hid (HN.out ⟨by dsimp only; omega, by dsimp only; omega, by dsimp only; omega, by dsimp only; omega⟩)
                              clear k2 hib
                              go_wp2_with fail
                              go_roundw
                              case rel => exact ⟨j + 1, hlt, by go_num, grownBy_trans HS.out.1 H7.out.1, HQ.out⟩
                              case measure => simp [intOf]; omega
                        · have e1 : ¬ n < x1 + m := by omega
                          have e2 : x1 + m < n := by omega
                          have e3 : x1 + m ≤ n := by omega
                          go_wp2_with fail
                          refine (in_any x2 (x1 + 1) _ _).mono ?_
                          rintro e w9 ⟨rfl, rfl⟩
                          generalize hib : inB x2 (x1 + 1) _ = bi
                          cases bi
                          · have k2 := in_not hib
                            have HQ := Lib.hid (HM.out (fun h => by obtain ⟨h1, h2, h3, h4⟩ := h; dsimp only at h1 h2 h3 h4; omega))
                            clear k2 hib
                            go_wp2_with fail
                            go_ret
                            exact ⟨ret_no (fun h => HQ.out h.2.2.2.2.1.1), grownBy_trans HT.out.1 H7.out.1⟩
                          · have k2 := in_of hib
                            have HQ := Lib.hid (HN.out ⟨by dsimp only; omega, by dsimp only; omega, by dsimp only; omega, by dsimp only; omega⟩)
                            clear k2 hib
                            go_wp2_with fail
                            go_roundw
                            case rel => exact ⟨j + 1, hlt, by go_num, grownBy_trans HS.out.1 H7.out.1, HQ.out⟩
                            case measure => simp [intOf]; omega
                    · obtain rfl : j = dl.length := by omega
                      have HQD := Lib.hid (show ∀ x ∈ dl, downW n m x by have h2 := HS.out.2; rw [List.take_length] at h2; exact h2)
                      go_wp2_with fail
                      clear c0
                      generalize hwc : wr = w7 at *
                      clear hwc HS
                      go_loopw [10, 12] (fun s10 s12 wr => WuRel w7 gl ul s10 s12 wr) (fun i _ _ => ul.length - (intOf i).toNat)
                      case atStart => exact ⟨0, Nat.zero_le _, rfl, World.grownBy.refl _ _, by simp⟩
                      case round => as_aux_lemma =>
                        obtain ⟨j, hj, rfl, hg, hin⟩ := hrel
                        have HS := Lib.hid (And.intro hg hin)
                        clear hg hin
                        have HV := Lib.hid (And.intro (grownBy_trans HT.out.1 HS.out.1) (And.intro (HT.out.2.1.kept HS.out.1) (HT.out.2.2.keep HS.out.1)))
                        have d0 := HV.out.2.2.c 13 rfl
                        by_cases hlt : j < ul.length
                        · obtain ⟨b1, off1, rfl, ⟨c0, c1, c2, c3⟩, hrg⟩ := nt_cells HV.out.2.1.u hlt
                          have HN := Lib.hid (fun h => all_more (P := fun x => upW gl x.o) ul j hlt HS.out.2 h)
                          have HM := Lib.hid (fun h => all_not (P := fun x => upW gl x.o) ul j hlt h)
                          have hxm := hum _ (List.getElem_mem hlt)
                          generalize ul[j] = x at *
                          obtain ⟨xk, xf, xn, xa, xc, xl⟩ := x
                          dsimp only at c0 c1 c2 c3 hrg hxm
                          have hlt' : (j : Int) < (ul.length : Int) := by omega
                          have hj0 : (0 : Int) ≤ (j : Int) := by omega
                          have gX := World.grownBy_alloc wr (.cells #[.int .i64 xk, .int .i64 xf, .int .i64 xn, .slice xa xl.length xc] 33) none
                          have H8 := Lib.hid (And.intro gX (And.intro (Bx.new wr 33 #[.int .i64 xk, .int .i64 xf, .int .i64 xn, .slice xa xl.length xc]) (hrg.kept gX)))
                          clear gX hrg
                          go_upto_region 28 with fail
                          clear d0 c0 c1 c2 c3
                          generalize wr.alloc (.cells #[.int .i64 xk, .int .i64 xf, .int .i64 xn, .slice xa xl.length xc] 33) = w8 at *
                          generalize wr.heap.size = P at *
                          have H9 := Lib.hid (And.intro (grownBy_trans HV.out.1 H8.out.1) (And.intro (HV.out.2.1.kept H8.out.1) (And.intro (HV.out.2.2.keep H8.out.1) H8.out.2)))
                          have c0 := H9.out.2.2.2.1.c 0 rfl
                          have c1 := H9.out.2.2.2.1.c 1 rfl
                          have c2 := H9.out.2.2.2.1.c 2 rfl
                          have c3 := H9.out.2.2.2.1.c 3 rfl
                          have c4 := H9.out.2.2.1.c 11 rfl
                          by_cases g1 : xk = 2
                          · by_cases g2 : noteP xk xf xn xl
                            · have hnd := decide_eq_true g2
                              by_cases g3 : ((prefL gl).length : Int) < xf
                              · have HQ := Lib.hid (HM.out (fun h => by have h1 := h.2.2.1; simp only [Nt.o] at h1; omega))
                                have hb1 : (xk != 2) = false := by simp [g1]
                                have hb2 : (xk == 2) = true := by simp [g1]
                                clear g1 g2
                                go_cut [199] (fun s199 wx => s199 = .bool true ∧ w8.grownBy wx none)
                                case first => as_aux_lemma =>
                                  refine wp_region_held_drew (S := fun w' => w'.cell? ⟨P, 0, none⟩ = some (.int .i64 xk) ∧ w'.cell? ⟨P, 1, none⟩ = some (.int .i64 xf) ∧ w'.cell? ⟨P, 2, none⟩ = some (.int .i64 xn) ∧ w'.cell? ⟨P, 3, none⟩ = some (.slice xa xl.length xc) ∧ w'.cell? ⟨B, 11, none⟩ = some (.slice ga gl.length gc) ∧ w8.grownBy w' none) (by kernel_rfl) (by have hd : w8.grownBy w8.drew none := ⟨rfl, rfl, rfl, Nat.le_refl _, fun _ _ _ => rfl⟩; exact ⟨(hd).cell c0 (by simp), (hd).cell c1 (by simp), (hd).cell c2 (by simp), (hd).cell c3 (by simp), (hd).cell c4 (by simp), hd⟩) (fun hS => ?_)
                                  refine wpAnyH_take (i := 0) (v := ?_) rfl (by kernel_rfl) (by kernel_rfl) (by kernel_rfl) (fun _ _ _ h => h) (Or.inl ⟨by kernel_rfl, ?_⟩) hS ?_
                                  rotate_left
                                  · intro w' hSw
                                    obtain ⟨g0, g1, g2, g3, g4, _⟩ := hSw
                                    first | (go_simp; done) | (go_simp; with_reducible rfl)
                                  simp only [List.getElem_toArray, List.getElem_cons_zero, Act.put, List.setIfInBounds_toArray, List.set_cons_zero, List.set_cons_succ]
                                  refine wpAnyH_take (i := 1) (v := ?_) rfl (by kernel_rfl) (by kernel_rfl) (by kernel_rfl) (fun _ _ _ h => h) (Or.inl ⟨by kernel_rfl, ?_⟩) hS ?_
                                  rotate_left
                                  · intro w' hSw
                                    obtain ⟨g0, g1, g2, g3, g4, _⟩ := hSw
                                    first | (go_simp; done) | (go_simp; with_reducible rfl)
                                  simp only [List.getElem_toArray, List.getElem_cons_zero, List.getElem_cons_succ, Act.put, List.setIfInBounds_toArray, List.set_cons_zero, List.set_cons_succ]
                                  refine wpAnyH_take (i := 2) (v := ?_) rfl (by kernel_rfl) (by kernel_rfl) (by kernel_rfl) (fun _ _ _ h => h) (Or.inl ⟨by kernel_rfl, ?_⟩) hS ?_
                                  rotate_left
                                  · intro w' hSw
                                    obtain ⟨g0, g1, g2, g3, g4, _⟩ := hSw
                                    first | (go_simp; done) | (go_simp; with_reducible rfl)
                                  simp only [List.getElem_toArray, List.getElem_cons_zero, List.getElem_cons_succ, Act.put, List.setIfInBounds_toArray, List.set_cons_zero, List.set_cons_succ]
                                  refine wpAnyH_take (i := 3) (v := ?_) rfl (by kernel_rfl) (by kernel_rfl) (by kernel_rfl) (fun _ _ _ h => h) (Or.inl ⟨by kernel_rfl, ?_⟩) hS ?_
                                  rotate_left
                                  · intro w' hSw
                                    obtain ⟨g0, g1, g2, g3, g4, _⟩ := hSw
                                    first | (go_simp; done) | (go_simp; with_reducible rfl)
                                  simp only [List.getElem_toArray, List.getElem_cons_zero, List.getElem_cons_succ, Act.put, List.setIfInBounds_toArray, List.set_cons_zero, List.set_cons_succ]
                                  refine wpAnyH_take (i := 4) (v := ?_) rfl (by kernel_rfl) (by kernel_rfl) (by kernel_rfl) (fun _ _ _ h => h) (Or.inl ⟨by kernel_rfl, ?_⟩) hS ?_
                                  rotate_left
                                  · intro w' hSw
                                    obtain ⟨g0, g1, g2, g3, g4, _⟩ := hSw
                                    first | (go_simp; done) | (go_simp; with_reducible rfl)
                                  simp only [List.getElem_toArray, List.getElem_cons_zero, List.getElem_cons_succ, Act.put, List.setIfInBounds_toArray, List.set_cons_zero, List.set_cons_succ]
                                  refine wpAnyH_ready (rs := [5]) (by kernel_rfl) (List.cons_ne_nil _ _) ?_
                                  refine AllReadyH.cons rfl (fun K hK => ?_) AllReadyH.nil
                                  go_simp
                                  go_at_call 14
                                  refine (note_S xk xf xn xa xc xl _ (H9.out.2.2.2.2.kept (hS.2.2.2.2.2)) hxm).mono ?_
                                  rintro e u1 ⟨rfl, hg⟩
                                  rw [hnd]
                                  have hF := grownBy_trans (hS.2.2.2.2.2) hg
                                  clear hg
                                  refine hK.out _ _ (⟨(hF).cell c0 (by simp), (hF).cell c1 (by simp), (hF).cell c2 (by simp), (hF).cell c3 (by simp), (hF).cell c4 (by simp), hF⟩) (fun hS => ?_)
                                  clear hF
                                  clear hK
                                  try simp only [List.getElem_toArray, List.getElem_cons_zero, List.getElem_cons_succ, Act.put, List.setIfInBounds_toArray, List.set_cons_zero, List.set_cons_succ]
                                  refine wpAnyH_take (i := 6) (v := ?_) rfl (by kernel_rfl) (by kernel_rfl) (by kernel_rfl) (fun _ _ _ h => h) (Or.inl ⟨by kernel_rfl, ?_⟩) hS ?_
                                  rotate_left
                                  · intro w' hSw
                                    obtain ⟨g0, g1, g2, g3, g4, _⟩ := hSw
                                    first | (go_simp; done) | (go_simp; with_reducible rfl)
                                  simp only [List.getElem_toArray, List.getElem_cons_zero, List.getElem_cons_succ, Act.put, List.setIfInBounds_toArray, List.set_cons_zero, List.set_cons_succ]
                                  refine wpAnyH_take (i := 7) (v := ?_) rfl (by kernel_rfl) (by kernel_rfl) (by kernel_rfl) (fun _ _ _ h => h) (Or.inl ⟨by kernel_rfl, ?_⟩) hS ?_
                                  rotate_left
                                  · intro w' hSw
                                    obtain ⟨g0, g1, g2, g3, g4, _⟩ := hSw
                                    first | (go_simp; done) | (go_simp; with_reducible rfl)
                                  simp only [List.getElem_toArray, List.getElem_cons_zero, List.getElem_cons_succ, Act.put, List.setIfInBounds_toArray, List.set_cons_zero, List.set_cons_succ]
                                  refine wpAnyH_take (i := 8) (v := ?_) rfl (by kernel_rfl) (by kernel_rfl) (by kernel_rfl) (fun _ _ _ h => h) (Or.inl ⟨by kernel_rfl, ?_⟩) hS ?_
                                  rotate_left
                                  · intro w' hSw
                                    obtain ⟨g0, g1, g2, g3, g4, _⟩ := hSw
                                    first | (go_simp; done) | (go_simp; with_reducible rfl)
                                  simp only [List.getElem_toArray, List.getElem_cons_zero, List.getElem_cons_succ, Act.put, List.setIfInBounds_toArray, List.set_cons_zero, List.set_cons_succ]
                                  refine wpAnyH_take (i := 9) (v := ?_) rfl (by kernel_rfl) (by kernel_rfl) (by kernel_rfl) (fun _ _ _ h => h) (Or.inl ⟨by kernel_rfl, ?_⟩) hS ?_
                                  rotate_left
                                  · intro w' hSw
                                    obtain ⟨g0, g1, g2, g3, g4, _⟩ := hSw
                                    first | (go_simp; done) | (go_simp; with_reducible rfl)
                                  simp only [List.getElem_toArray, List.getElem_cons_zero, List.getElem_cons_succ, Act.put, List.setIfInBounds_toArray, List.set_cons_zero, List.set_cons_succ]
                                  refine wpAnyH_take (i := 10) (v := ?_) rfl (by kernel_rfl) (by kernel_rfl) (by kernel_rfl) (fun _ _ _ h => h) (Or.inl ⟨by kernel_rfl, ?_⟩) hS ?_
                                  rotate_left
                                  · intro w' hSw
                                    obtain ⟨g0, g1, g2, g3, g4, _⟩ := hSw
                                    first | (go_simp; done) | (go_simp; with_reducible rfl)
                                  simp only [List.getElem_toArray, List.getElem_cons_zero, List.getElem_cons_succ, Act.put, List.setIfInBounds_toArray, List.set_cons_zero, List.set_cons_succ]
                                  refine wpAnyH_take (i := 11) (v := ?_) rfl (by kernel_rfl) (by kernel_rfl) (by kernel_rfl) (fun _ _ _ h => h) (Or.inl ⟨by kernel_rfl, ?_⟩) hS ?_
                                  rotate_left
                                  · intro w' hSw
                                    obtain ⟨g0, g1, g2, g3, g4, _⟩ := hSw
                                    first | (go_simp; done) | (go_simp; with_reducible rfl)
                                  simp only [List.getElem_toArray, List.getElem_cons_zero, List.getElem_cons_succ, Act.put, List.setIfInBounds_toArray, List.set_cons_zero, List.set_cons_succ]
                                  refine wpAnyH_take (i := 12) (v := ?_) rfl (by kernel_rfl) (by kernel_rfl) (by kernel_rfl) (fun _ _ _ h => h) (Or.inl ⟨by kernel_rfl, ?_⟩) hS ?_
                                  rotate_left
                                  · intro w' hSw
                                    obtain ⟨g0, g1, g2, g3, g4, _⟩ := hSw
                                    first | (go_simp; done) | (go_simp; with_reducible rfl)
                                  simp only [List.getElem_toArray, List.getElem_cons_zero, List.getElem_cons_succ, Act.put, List.setIfInBounds_toArray, List.set_cons_zero, List.set_cons_succ]
                                  refine wpAnyH_ready (rs := [13]) (by kernel_rfl) (List.cons_ne_nil _ _) ?_
                                  refine AllReadyH.cons rfl (fun K hK => ?_) AllReadyH.nil
                                  go_simp
                                  go_at_call 37
                                  refine (pref_spec ga gc gl _ (H9.out.2.1.g.kept (hS.2.2.2.2.2)) (by omega)).mono ?_
                                  rintro e u1 ⟨rfl, hg⟩
                                  have hF := grownBy_trans (hS.2.2.2.2.2) hg
                                  clear hg
                                  refine hK.out _ _ (⟨(hF).cell c0 (by simp), (hF).cell c1 (by simp), (hF).cell c2 (by simp), (hF).cell c3 (by simp), (hF).cell c4 (by simp), hF⟩) (fun hS => ?_)
                                  clear hF
                                  clear hK
                                  try simp only [List.getElem_toArray, List.getElem_cons_zero, List.getElem_cons_succ, Act.put, List.setIfInBounds_toArray, List.set_cons_zero, List.set_cons_succ]
                                  refine wpAnyH_take (i := 14) (v := ?_) rfl (by kernel_rfl) (by kernel_rfl) (by kernel_rfl) (fun _ _ _ h => h) (Or.inl ⟨by kernel_rfl, ?_⟩) hS ?_
                                  rotate_left
                                  · intro w' hSw
                                    obtain ⟨g0, g1, g2, g3, g4, _⟩ := hSw
                                    first | (go_simp; done) | (go_simp; with_reducible rfl)
                                  simp only [List.getElem_toArray, List.getElem_cons_zero, List.getElem_cons_succ, Act.put, List.setIfInBounds_toArray, List.set_cons_zero, List.set_cons_succ]
                                  refine wpAnyH_take (i := 15) (v := ?_) rfl (by kernel_rfl) (by kernel_rfl) (by kernel_rfl) (fun _ _ _ h => h) (Or.inl ⟨by kernel_rfl, ?_⟩) hS ?_
                                  rotate_left
                                  · intro w' hSw
                                    obtain ⟨g0, g1, g2, g3, g4, _⟩ := hSw
                                    first | (go_simp; done) | (go_simp; with_reducible rfl)
                                  simp only [List.getElem_toArray, List.getElem_cons_zero, List.getElem_cons_succ, Act.put, List.setIfInBounds_toArray, List.set_cons_zero, List.set_cons_succ]
                                  refine wpAnyH_take (i := 16) (v := ?_) rfl (by kernel_rfl) (by kernel_rfl) (by kernel_rfl) (fun _ _ _ h => h) (Or.inl ⟨by kernel_rfl, ?_⟩) hS ?_
                                  rotate_left
                                  · intro w' hSw
                                    obtain ⟨g0, g1, g2, g3, g4, _⟩ := hSw
                                    first | (go_simp; done) | (go_simp; with_reducible rfl)
                                  simp only [List.getElem_toArray, List.getElem_cons_zero, List.getElem_cons_succ, Act.put, List.setIfInBounds_toArray, List.set_cons_zero, List.set_cons_succ]
                                  refine wpAnyH_done (by kernel_rfl) ?_ _
                                  go_wp2_with fail
                                  go_meet
                                  exact ⟨rfl, hS.2.2.2.2.2⟩
                                case rest => as_aux_lemma =>
                                  obtain ⟨rfl, hgx⟩ := hcut
                                  have HZ := Lib.hid (grownBy_trans H9.out.1 hgx)
                                  clear hgx c0 c1 c2 c3 c4 hnd hb1 hb2
                                  go_wp2_with fail
                                  go_ret
                                  exact ⟨ret_no (fun h => ups_no2 HQ.out h.2.2.2.2.2.1), HZ.out⟩
                              · have HG := Lib.hid (And.intro g1 (And.intro g2 (show xf ≤ ((prefL gl).length : Int) by omega)))
                                have hb1 : (xk != 2) = false := by simp [g1]
                                have hb2 : (xk == 2) = true := by simp [g1]
                                clear g1 g2
                                go_cut [199] (fun s199 wx => s199 = .bool false ∧ w8.grownBy wx none)
                                case first => as_aux_lemma =>
                                  refine wp_region_held_drew (S := fun w' => w'.cell? ⟨P, 0, none⟩ = some (.int .i64 xk) ∧ w'.cell? ⟨P, 1, none⟩ = some (.int .i64 xf) ∧ w'.cell? ⟨P, 2, none⟩ = some (.int .i64 xn) ∧ w'.cell? ⟨P, 3, none⟩ = some (.slice xa xl.length xc) ∧ w'.cell? ⟨B, 11, none⟩ = some (.slice ga gl.length gc) ∧ w8.grownBy w' none) (by kernel_rfl) (by have hd : w8.grownBy w8.drew none := ⟨rfl, rfl, rfl, Nat.le_refl _, fun _ _ _ => rfl⟩; exact ⟨(hd).cell c0 (by simp), (hd).cell c1 (by simp), (hd).cell c2 (by simp), (hd).cell c3 (by simp), (hd).cell c4 (by simp), hd⟩) (fun hS => ?_)
                                  refine wpAnyH_take (i := 0) (v := ?_) rfl (by kernel_rfl) (by kernel_rfl) (by kernel_rfl) (fun _ _ _ h => h) (Or.inl ⟨by kernel_rfl, ?_⟩) hS ?_
                                  rotate_left
                                  · intro w' hSw
                                    obtain ⟨g0, g1, g2, g3, g4, _⟩ := hSw
                                    first | (go_simp; done) | (go_simp; with_reducible rfl)
                                  simp only [List.getElem_toArray, List.getElem_cons_zero, Act.put, List.setIfInBounds_toArray, List.set_cons_zero, List.set_cons_succ]
                                  refine wpAnyH_take (i := 1) (v := ?_) rfl (by kernel_rfl) (by kernel_rfl) (by kernel_rfl) (fun _ _ _ h => h) (Or.inl ⟨by kernel_rfl, ?_⟩) hS ?_
                                  rotate_left
                                  · intro w' hSw
                                    obtain ⟨g0, g1, g2, g3, g4, _⟩ := hSw
                                    first | (go_simp; done) | (go_simp; with_reducible rfl)
                                  simp only [List.getElem_toArray, List.getElem_cons_zero, List.getElem_cons_succ, Act.put, List.setIfInBounds_toArray, List.set_cons_zero, List.set_cons_succ]
                                  refine wpAnyH_take (i := 2) (v := ?_) rfl (by kernel_rfl) (by kernel_rfl) (by kernel_rfl) (fun _ _ _ h => h) (Or.inl ⟨by kernel_rfl, ?_⟩) hS ?_
                                  rotate_left
                                  · intro w' hSw
                                    obtain ⟨g0, g1, g2, g3, g4, _⟩ := hSw
                                    first | (go_simp; done) | (go_simp; with_reducible rfl)
                                  simp only [List.getElem_toArray, List.getElem_cons_zero, List.getElem_cons_succ, Act.put, List.setIfInBounds_toArray, List.set_cons_zero, List.set_cons_succ]
                                  refine wpAnyH_take (i := 3) (v := ?_) rfl (by kernel_rfl) (by kernel_rfl) (by kernel_rfl) (fun _ _ _ h => h) (Or.inl ⟨by kernel_rfl, ?_⟩) hS ?_
                                  rotate_left
                                  · intro w' hSw
                                    obtain ⟨g0, g1, g2, g3, g4, _⟩ := hSw
                                    first | (go_simp; done) | (go_simp; with_reducible rfl)
                                  simp only [List.getElem_toArray, List.getElem_cons_zero, List.getElem_cons_succ, Act.put, List.setIfInBounds_toArray, List.set_cons_zero, List.set_cons_succ]
                                  refine wpAnyH_take (i := 4) (v := ?_) rfl (by kernel_rfl) (by kernel_rfl) (by kernel_rfl) (fun _ _ _ h => h) (Or.inl ⟨by kernel_rfl, ?_⟩) hS ?_
                                  rotate_left
                                  · intro w' hSw
                                    obtain ⟨g0, g1, g2, g3, g4, _⟩ := hSw
                                    first | (go_simp; done) | (go_simp; with_reducible rfl)
                                  simp only [List.getElem_toArray, List.getElem_cons_zero, List.getElem_cons_succ, Act.put, List.setIfInBounds_toArray, List.set_cons_zero, List.set_cons_succ]
                                  refine wpAnyH_ready (rs := [5]) (by kernel_rfl) (List.cons_ne_nil _ _) ?_
                                  refine AllReadyH.cons rfl (fun K hK => ?_) AllReadyH.nil
                                  go_simp
                                  go_at_call 14
                                  refine (note_S xk xf xn xa xc xl _ (H9.out.2.2.2.2.kept (hS.2.2.2.2.2)) hxm).mono ?_
                                  rintro e u1 ⟨rfl, hg⟩
                                  rw [hnd]
                                  have hF := grownBy_trans (hS.2.2.2.2.2) hg
                                  clear hg
                                  refine hK.out _ _ (⟨(hF).cell c0 (by simp), (hF).cell c1 (by simp), (hF).cell c2 (by simp), (hF).cell c3 (by simp), (hF).cell c4 (by simp), hF⟩) (fun hS => ?_)
                                  clear hF
                                  clear hK
                                  try simp only [List.getElem_toArray, List.getElem_cons_zero, List.getElem_cons_succ, Act.put, List.setIfInBounds_toArray, List.set_cons_zero, List.set_cons_succ]
                                  refine wpAnyH_take (i := 6) (v := ?_) rfl (by kernel_rfl) (by kernel_rfl) (by kernel_rfl) (fun _ _ _ h => h) (Or.inl ⟨by kernel_rfl, ?_⟩) hS ?_
                                  rotate_left
                                  · intro w' hSw
                                    obtain ⟨g0, g1, g2, g3, g4, _⟩ := hSw
                                    first | (go_simp; done) | (go_simp; with_reducible rfl)
                                  simp only [List.getElem_toArray, List.getElem_cons_zero, List.getElem_cons_succ, Act.put, List.setIfInBounds_toArray, List.set_cons_zero, List.set_cons_succ]
                                  refine wpAnyH_take (i := 7) (v := ?_) rfl (by kernel_rfl) (by kernel_rfl) (by kernel_rfl) (fun _ _ _ h => h) (Or.inl ⟨by kernel_rfl, ?_⟩) hS ?_
                                  rotate_left
                                  · intro w' hSw
                                    obtain ⟨g0, g1, g2, g3, g4, _⟩ := hSw
                                    first | (go_simp; done) | (go_simp; with_reducible rfl)
                                  simp only [List.getElem_toArray, List.getElem_cons_zero, List.getElem_cons_succ, Act.put, List.setIfInBounds_toArray, List.set_cons_zero, List.set_cons_succ]
                                  refine wpAnyH_take (i := 8) (v := ?_) rfl (by kernel_rfl) (by kernel_rfl) (by kernel_rfl) (fun _ _ _ h => h) (Or.inl ⟨by kernel_rfl, ?_⟩) hS ?_
                                  rotate_left
                                  · intro w' hSw
                                    obtain ⟨g0, g1, g2, g3, g4, _⟩ := hSw
                                    first | (go_simp; done) | (go_simp; with_reducible rfl)
                                  simp only [List.getElem_toArray, List.getElem_cons_zero, List.getElem_cons_succ, Act.put, List.setIfInBounds_toArray, List.set_cons_zero, List.set_cons_succ]
                                  refine wpAnyH_take (i := 9) (v := ?_) rfl (by kernel_rfl) (by kernel_rfl) (by kernel_rfl) (fun _ _ _ h => h) (Or.inl ⟨by kernel_rfl, ?_⟩) hS ?_
                                  rotate_left
                                  · intro w' hSw
                                    obtain ⟨g0, g1, g2, g3, g4, _⟩ := hSw
                                    first | (go_simp; done) | (go_simp; with_reducible rfl)
                                  simp only [List.getElem_toArray, List.getElem_cons_zero, List.getElem_cons_succ, Act.put, List.setIfInBounds_toArray, List.set_cons_zero, List.set_cons_succ]
                                  refine wpAnyH_take (i := 10) (v := ?_) rfl (by kernel_rfl) (by kernel_rfl) (by kernel_rfl) (fun _ _ _ h => h) (Or.inl ⟨by kernel_rfl, ?_⟩) hS ?_
                                  rotate_left
                                  · intro w' hSw
                                    obtain ⟨g0, g1, g2, g3, g4, _⟩ := hSw
                                    first | (go_simp; done) | (go_simp; with_reducible rfl)
                                  simp only [List.getElem_toArray, List.getElem_cons_zero, List.getElem_cons_succ, Act.put, List.setIfInBounds_toArray, List.set_cons_zero, List.set_cons_succ]
                                  refine wpAnyH_take (i := 11) (v := ?_) rfl (by kernel_rfl) (by kernel_rfl) (by kernel_rfl) (fun _ _ _ h => h) (Or.inl ⟨by kernel_rfl, ?_⟩) hS ?_
                                  rotate_left
                                  · intro w' hSw
                                    obtain ⟨g0, g1, g2, g3, g4, _⟩ := hSw
                                    first | (go_simp; done) | (go_simp; with_reducible rfl)
                                  simp only [List.getElem_toArray, List.getElem_cons_zero, List.getElem_cons_succ, Act.put, List.setIfInBounds_toArray, List.set_cons_zero, List.set_cons_succ]
                                  refine wpAnyH_take (i := 12) (v := ?_) rfl (by kernel_rfl) (by kernel_rfl) (by kernel_rfl) (fun _ _ _ h => h) (Or.inl ⟨by kernel_rfl, ?_⟩) hS ?_
                                  rotate_left
                                  · intro w' hSw
                                    obtain ⟨g0, g1, g2, g3, g4, _⟩ := hSw
                                    first | (go_simp; done) | (go_simp; with_reducible rfl)
                                  simp only [List.getElem_toArray, List.getElem_cons_zero, List.getElem_cons_succ, Act.put, List.setIfInBounds_toArray, List.set_cons_zero, List.set_cons_succ]
                                  refine wpAnyH_ready (rs := [13]) (by kernel_rfl) (List.cons_ne_nil _ _) ?_
                                  refine AllReadyH.cons rfl (fun K hK => ?_) AllReadyH.nil
                                  go_simp
                                  go_at_call 37
                                  refine (pref_spec ga gc gl _ (H9.out.2.1.g.kept (hS.2.2.2.2.2)) (by omega)).mono ?_
                                  rintro e u1 ⟨rfl, hg⟩
                                  have hF := grownBy_trans (hS.2.2.2.2.2) hg
                                  clear hg
                                  refine hK.out _ _ (⟨(hF).cell c0 (by simp), (hF).cell c1 (by simp), (hF).cell c2 (by simp), (hF).cell c3 (by simp), (hF).cell c4 (by simp), hF⟩) (fun hS => ?_)
                                  clear hF
                                  clear hK
                                  try simp only [List.getElem_toArray, List.getElem_cons_zero, List.getElem_cons_succ, Act.put, List.setIfInBounds_toArray, List.set_cons_zero, List.set_cons_succ]
                                  refine wpAnyH_take (i := 14) (v := ?_) rfl (by kernel_rfl) (by kernel_rfl) (by kernel_rfl) (fun _ _ _ h => h) (Or.inl ⟨by kernel_rfl, ?_⟩) hS ?_
                                  rotate_left
                                  · intro w' hSw
                                    obtain ⟨g0, g1, g2, g3, g4, _⟩ := hSw
                                    first | (go_simp; done) | (go_simp; with_reducible rfl)
                                  simp only [List.getElem_toArray, List.getElem_cons_zero, List.getElem_cons_succ, Act.put, List.setIfInBounds_toArray, List.set_cons_zero, List.set_cons_succ]
                                  refine wpAnyH_take (i := 15) (v := ?_) rfl (by kernel_rfl) (by kernel_rfl) (by kernel_rfl) (fun _ _ _ h => h) (Or.inl ⟨by kernel_rfl, ?_⟩) hS ?_
                                  rotate_left
                                  · intro w' hSw
                                    obtain ⟨g0, g1, g2, g3, g4, _⟩ := hSw
                                    first | (go_simp; done) | (go_simp; with_reducible rfl)
                                  simp only [List.getElem_toArray, List.getElem_cons_zero, List.getElem_cons_succ, Act.put, List.setIfInBounds_toArray, List.set_cons_zero, List.set_cons_succ]
                                  refine wpAnyH_take (i := 16) (v := ?_) rfl (by kernel_rfl) (by kernel_rfl) (by kernel_rfl) (fun _ _ _ h => h) (Or.inl ⟨by kernel_rfl, ?_⟩) hS ?_
                                  rotate_left
                                  · intro w' hSw
                                    obtain ⟨g0, g1, g2, g3, g4, _⟩ := hSw
                                    first | (go_simp; done) | (go_simp; with_reducible rfl)
                                  simp only [List.getElem_toArray, List.getElem_cons_zero, List.getElem_cons_succ, Act.put, List.setIfInBounds_toArray, List.set_cons_zero, List.set_cons_succ]
                                  refine wpAnyH_done (by kernel_rfl) ?_ _
                                  go_wp2_with fail
                                  go_meet
                                  exact ⟨rfl, hS.2.2.2.2.2⟩
                                case rest => as_aux_lemma =>
                                  obtain ⟨rfl, hgx⟩ := hcut
                                  have HX := Lib.hid (And.intro (grownBy_trans H9.out.1 hgx) (And.intro (H9.out.2.1.kept hgx) (And.intro (H9.out.2.2.1.keep hgx) (And.intro (H9.out.2.2.2.1.keep hgx) (And.intro (H9.out.2.2.2.2.kept hgx) (grownBy_trans HS.out.1 (grownBy_trans H8.out.1 hgx)))))))
                                  clear hgx c0 c1 c2 c3 c4 hnd hb1 hb2 H9 H8
                                  generalize hwc : wc = w9 at *
                                  clear hwc
                                  go_wp2_with fail
                                  go_loopw [12] (fun i wr => WsRel w9 gl xl i wr) (fun i _ => xl.length - (intOf i).toNat)
                                  case atStart => exact ⟨0, Nat.zero_le _, rfl, World.grownBy.refl _ _, by simp⟩
                                  case round => as_aux_lemma =>
                                    obtain ⟨i, hi, rfl, hg, hin⟩ := hrel
                                    have HI := Lib.hid (And.intro hg hin)
                                    clear hg hin
                                    have c0 := (HX.out.2.2.2.1.keep HI.out.1).c 3 rfl
                                    by_cases hlt2 : i < xl.length
                                    · obtain ⟨b2, off2, rfl, c2, c3⟩ := rg_cells (HX.out.2.2.2.2.1.kept HI.out.1) hlt2
                                      have HN2 := Lib.hid (fun h => all_more (P := fun x => hadL gl x) xl i hlt2 HI.out.2 h)
                                      have HM2 := Lib.hid (fun h => all_not (P := fun x => hadL gl x) xl i hlt2 h)
                                      generalize xl[i] = x at *
                                      obtain ⟨x1, x2⟩ := x
                                      dsimp only at c2 c3
                                      have hlt3 : (i : Int) < (xl.length : Int) := by omega
                                      have hi0 : (0 : Int) ≤ (i : Int) := by omega
                                      have c1 := (HX.out.2.2.1.keep HI.out.1).c 11 rfl
                                      have HWA := Lib.hid (HX.out.2.1.kept HI.out.1)
                                      go_upto_region 33 with fail
                                      by_cases hh : hadL gl (x1, x2)
                                      · have hd := decide_eq_true hh
                                        have HQ := Lib.hid (HN2.out hh)
                                        clear hh
                                        go_cut [215] (fun s215 wx => s215 = .bool false ∧ wr.grownBy wx none)
                                        case first => as_aux_lemma =>
                                          refine wp_region_held_drew (S := fun w' => w'.cell? ⟨P, 3, none⟩ = some (.slice (some ⟨b2, off2, none⟩) xl.length xc) ∧ w'.cell? ⟨B, 11, none⟩ = some (.slice ga gl.length gc) ∧ w'.cell? ⟨b2, off2 + i * 2, none⟩ = some (.int .i64 x1) ∧ w'.cell? ⟨b2, off2 + i * 2 + 1, none⟩ = some (.int .i64 x2) ∧ wr.grownBy w' none) (by kernel_rfl) (by have hd : wr.grownBy wr.drew none := ⟨rfl, rfl, rfl, Nat.le_refl _, fun _ _ _ => rfl⟩; exact ⟨(hd).cell c0 (by simp), (hd).cell c1 (by simp), (hd).cell c2 (by simp), (hd).cell c3 (by simp), hd⟩) (fun hS => ?_)
                                          refine wpAnyH_take (i := 0) (v := ?_) rfl (by kernel_rfl) (by kernel_rfl) (by kernel_rfl) (fun _ _ _ h => h) (Or.inl ⟨by kernel_rfl, ?_⟩) hS ?_
                                          rotate_left
                                          · intro w' hSw
                                            obtain ⟨g0, g1, g2, g3, _⟩ := hSw
                                            first | (go_simp; done) | (go_simp; with_reducible rfl)
                                          simp only [List.getElem_toArray, List.getElem_cons_zero, Act.put, List.setIfInBounds_toArray, List.set_cons_zero, List.set_cons_succ]
                                          refine wpAnyH_take (i := 1) (v := ?_) rfl (by kernel_rfl) (by kernel_rfl) (by kernel_rfl) (fun _ _ _ h => h) (Or.inl ⟨by kernel_rfl, ?_⟩) hS ?_
                                          rotate_left
                                          · intro w' hSw
                                            obtain ⟨g0, g1, g2, g3, _⟩ := hSw
                                            first | (go_simp; done) | (go_simp; with_reducible rfl)
                                          simp only [List.getElem_toArray, List.getElem_cons_zero, List.getElem_cons_succ, Act.put, List.setIfInBounds_toArray, List.set_cons_zero, List.set_cons_succ]
                                          refine wpAnyH_take (i := 2) (v := ?_) rfl (by kernel_rfl) (by kernel_rfl) (by kernel_rfl) (fun _ _ _ h => h) (Or.inl ⟨by kernel_rfl, ?_⟩) hS ?_
                                          rotate_left
                                          · intro w' hSw
                                            obtain ⟨g0, g1, g2, g3, _⟩ := hSw
                                            first | (go_simp; done) | (go_simp; with_reducible rfl)
                                          simp only [List.getElem_toArray, List.getElem_cons_zero, List.getElem_cons_succ, Act.put, List.setIfInBounds_toArray, List.set_cons_zero, List.set_cons_succ]
                                          refine wpAnyH_take (i := 3) (v := ?_) rfl (by kernel_rfl) (by kernel_rfl) (by kernel_rfl) (fun _ _ _ h => h) (Or.inl ⟨by kernel_rfl, ?_⟩) hS ?_
                                          rotate_left
                                          · intro w' hSw
                                            obtain ⟨g0, g1, g2, g3, _⟩ := hSw
                                            first | (go_simp; done) | (go_simp; with_reducible rfl)
                                          simp only [List.getElem_toArray, List.getElem_cons_zero, List.getElem_cons_succ, Act.put, List.setIfInBounds_toArray, List.set_cons_zero, List.set_cons_succ]
                                          refine wpAnyH_take (i := 4) (v := ?_) rfl (by kernel_rfl) (by kernel_rfl) (by kernel_rfl) (fun _ _ _ h => h) (Or.inl ⟨by kernel_rfl, ?_⟩) hS ?_
                                          rotate_left
                                          · intro w' hSw
                                            obtain ⟨g0, g1, g2, g3, _⟩ := hSw
                                            first | (go_simp; done) | (go_simp; with_reducible rfl)
                                          simp only [List.getElem_toArray, List.getElem_cons_zero, List.getElem_cons_succ, Act.put, List.setIfInBounds_toArray, List.set_cons_zero, List.set_cons_succ]
                                          refine wpAnyH_take (i := 5) (v := ?_) rfl (by kernel_rfl) (by kernel_rfl) (by kernel_rfl) (fun _ _ _ h => h) (Or.inl ⟨by kernel_rfl, ?_⟩) hS ?_
                                          rotate_left
                                          · intro w' hSw
                                            obtain ⟨g0, g1, g2, g3, _⟩ := hSw
                                            first | (go_simp; done) | (go_simp; with_reducible rfl)
                                          simp only [List.getElem_toArray, List.getElem_cons_zero, List.getElem_cons_succ, Act.put, List.setIfInBounds_toArray, List.set_cons_zero, List.set_cons_succ]
                                          refine wpAnyH_take (i := 6) (v := ?_) rfl (by kernel_rfl) (by kernel_rfl) (by kernel_rfl) (fun _ _ _ h => h) (Or.inl ⟨by kernel_rfl, ?_⟩) hS ?_
                                          rotate_left
                                          · intro w' hSw
                                            obtain ⟨g0, g1, g2, g3, _⟩ := hSw
                                            first | (go_simp; done) | (go_simp; with_reducible rfl)
                                          simp only [List.getElem_toArray, List.getElem_cons_zero, List.getElem_cons_succ, Act.put, List.setIfInBounds_toArray, List.set_cons_zero, List.set_cons_succ]
                                          refine wpAnyH_ready (rs := [7]) (by kernel_rfl) (List.cons_ne_nil _ _) ?_
                                          refine AllReadyH.cons rfl (fun K hK => ?_) AllReadyH.nil
                                          go_simp
                                          go_at_call 36
                                          refine (had_S ga gc gl x1 x2 _ (HWA.out.g.kept (hS.2.2.2.2)) (by omega) HP.out.2.1).mono ?_
                                          rintro e u1 ⟨rfl, hg⟩
                                          rw [hd]
                                          have hF := grownBy_trans (hS.2.2.2.2) hg
                                          clear hg
                                          refine hK.out _ _ (⟨(hF).cell c0 (by simp), (hF).cell c1 (by simp), (hF).cell c2 (by simp), (hF).cell c3 (by simp), hF⟩) (fun hS => ?_)
                                          clear hF
                                          clear hK
                                          try simp only [List.getElem_toArray, List.getElem_cons_zero, List.getElem_cons_succ, Act.put, List.setIfInBounds_toArray, List.set_cons_zero, List.set_cons_succ]
                                          refine wpAnyH_take (i := 8) (v := ?_) rfl (by kernel_rfl) (by kernel_rfl) (by kernel_rfl) (fun _ _ _ h => h) (Or.inl ⟨by kernel_rfl, ?_⟩) hS ?_
                                          rotate_left
                                          · intro w' hSw
                                            obtain ⟨g0, g1, g2, g3, _⟩ := hSw
                                            first | (go_simp; done) | (go_simp; with_reducible rfl)
                                          simp only [List.getElem_toArray, List.getElem_cons_zero, List.getElem_cons_succ, Act.put, List.setIfInBounds_toArray, List.set_cons_zero, List.set_cons_succ]
                                          refine wpAnyH_done (by kernel_rfl) ?_ _
                                          go_wp2_with fail
                                          go_meet
                                          exact ⟨rfl, hS.2.2.2.2⟩
                                        case rest => as_aux_lemma =>
                                          obtain ⟨rfl, hgx⟩ := hcut
                                          have HZ := Lib.hid (grownBy_trans HI.out.1 hgx)
                                          clear hgx c0 c1 c2 c3 hd
                                          go_wp2_with fail
                                          go_roundw
                                          case rel => exact ⟨i + 1, hlt2, by go_num, HZ.out, HQ.out⟩
                                          case measure => simp [intOf]; omega
                                      · have hd := decide_eq_false hh
                                        have HQ := Lib.hid (HM2.out hh)
                                        clear hh
                                        go_cut [215] (fun s215 wx => s215 = .bool true ∧ wr.grownBy wx none)
                                        case first => as_aux_lemma =>
                                          refine wp_region_held_drew (S := fun w' => w'.cell? ⟨P, 3, none⟩ = some (.slice (some ⟨b2, off2, none⟩) xl.length xc) ∧ w'.cell? ⟨B, 11, none⟩ = some (.slice ga gl.length gc) ∧ w'.cell? ⟨b2, off2 + i * 2, none⟩ = some (.int .i64 x1) ∧ w'.cell? ⟨b2, off2 + i * 2 + 1, none⟩ = some (.int .i64 x2) ∧ wr.grownBy w' none) (by kernel_rfl) (by have hd : wr.grownBy wr.drew none := ⟨rfl, rfl, rfl, Nat.le_refl _, fun _ _ _ => rfl⟩; exact ⟨(hd).cell c0 (by simp), (hd).cell c1 (by simp), (hd).cell c2 (by simp), (hd).cell c3 (by simp), hd⟩) (fun hS => ?_)
                                          refine wpAnyH_take (i := 0) (v := ?_) rfl (by kernel_rfl) (by kernel_rfl) (by kernel_rfl) (fun _ _ _ h => h) (Or.inl ⟨by kernel_rfl, ?_⟩) hS ?_
                                          rotate_left
                                          · intro w' hSw
                                            obtain ⟨g0, g1, g2, g3, _⟩ := hSw
                                            first | (go_simp; done) | (go_simp; with_reducible rfl)
                                          simp only [List.getElem_toArray, List.getElem_cons_zero, Act.put, List.setIfInBounds_toArray, List.set_cons_zero, List.set_cons_succ]
                                          refine wpAnyH_take (i := 1) (v := ?_) rfl (by kernel_rfl) (by kernel_rfl) (by kernel_rfl) (fun _ _ _ h => h) (Or.inl ⟨by kernel_rfl, ?_⟩) hS ?_
                                          rotate_left
                                          · intro w' hSw
                                            obtain ⟨g0, g1, g2, g3, _⟩ := hSw
                                            first | (go_simp; done) | (go_simp; with_reducible rfl)
                                          simp only [List.getElem_toArray, List.getElem_cons_zero, List.getElem_cons_succ, Act.put, List.setIfInBounds_toArray, List.set_cons_zero, List.set_cons_succ]
                                          refine wpAnyH_take (i := 2) (v := ?_) rfl (by kernel_rfl) (by kernel_rfl) (by kernel_rfl) (fun _ _ _ h => h) (Or.inl ⟨by kernel_rfl, ?_⟩) hS ?_
                                          rotate_left
                                          · intro w' hSw
                                            obtain ⟨g0, g1, g2, g3, _⟩ := hSw
                                            first | (go_simp; done) | (go_simp; with_reducible rfl)
                                          simp only [List.getElem_toArray, List.getElem_cons_zero, List.getElem_cons_succ, Act.put, List.setIfInBounds_toArray, List.set_cons_zero, List.set_cons_succ]
                                          refine wpAnyH_take (i := 3) (v := ?_) rfl (by kernel_rfl) (by kernel_rfl) (by kernel_rfl) (fun _ _ _ h => h) (Or.inl ⟨by kernel_rfl, ?_⟩) hS ?_
                                          rotate_left
                                          · intro w' hSw
                                            obtain ⟨g0, g1, g2, g3, _⟩ := hSw
                                            first | (go_simp; done) | (go_simp; with_reducible rfl)
                                          simp only [List.getElem_toArray, List.getElem_cons_zero, List.getElem_cons_succ, Act.put, List.setIfInBounds_toArray, List.set_cons_zero, List.set_cons_succ]
                                          refine wpAnyH_take (i := 4) (v := ?_) rfl (by kernel_rfl) (by kernel_rfl) (by kernel_rfl) (fun _ _ _ h => h) (Or.inl ⟨by kernel_rfl, ?_⟩) hS ?_
                                          rotate_left
                                          · intro w' hSw
                                            obtain ⟨g0, g1, g2, g3, _⟩ := hSw
                                            first | (go_simp; done) | (go_simp; with_reducible rfl)
                                          simp only [List.getElem_toArray, List.getElem_cons_zero, List.getElem_cons_succ, Act.put, List.setIfInBounds_toArray, List.set_cons_zero, List.set_cons_succ]
                                          refine wpAnyH_take (i := 5) (v := ?_) rfl (by kernel_rfl) (by kernel_rfl) (by kernel_rfl) (fun _ _ _ h => h) (Or.inl ⟨by kernel_rfl, ?_⟩) hS ?_
                                          rotate_left
                                          · intro w' hSw
                                            obtain ⟨g0, g1, g2, g3, _⟩ := hSw
                                            first | (go_simp; done) | (go_simp; with_reducible rfl)
                                          simp only [List.getElem_toArray, List.getElem_cons_zero, List.getElem_cons_succ, Act.put, List.setIfInBounds_toArray, List.set_cons_zero, List.set_cons_succ]
                                          refine wpAnyH_take (i := 6) (v := ?_) rfl (by kernel_rfl) (by kernel_rfl) (by kernel_rfl) (fun _ _ _ h => h) (Or.inl ⟨by kernel_rfl, ?_⟩) hS ?_
                                          rotate_left
                                          · intro w' hSw
                                            obtain ⟨g0, g1, g2, g3, _⟩ := hSw
                                            first | (go_simp; done) | (go_simp; with_reducible rfl)
                                          simp only [List.getElem_toArray, List.getElem_cons_zero, List.getElem_cons_succ, Act.put, List.setIfInBounds_toArray, List.set_cons_zero, List.set_cons_succ]
                                          refine wpAnyH_ready (rs := [7]) (by kernel_rfl) (List.cons_ne_nil _ _) ?_
                                          refine AllReadyH.cons rfl (fun K hK => ?_) AllReadyH.nil
                                          go_simp
                                          go_at_call 36
                                          refine (had_S ga gc gl x1 x2 _ (HWA.out.g.kept (hS.2.2.2.2)) (by omega) HP.out.2.1).mono ?_
                                          rintro e u1 ⟨rfl, hg⟩
                                          rw [hd]
                                          have hF := grownBy_trans (hS.2.2.2.2) hg
                                          clear hg
                                          refine hK.out _ _ (⟨(hF).cell c0 (by simp), (hF).cell c1 (by simp), (hF).cell c2 (by simp), (hF).cell c3 (by simp), hF⟩) (fun hS => ?_)
                                          clear hF
                                          clear hK
                                          try simp only [List.getElem_toArray, List.getElem_cons_zero, List.getElem_cons_succ, Act.put, List.setIfInBounds_toArray, List.set_cons_zero, List.set_cons_succ]
                                          refine wpAnyH_take (i := 8) (v := ?_) rfl (by kernel_rfl) (by kernel_rfl) (by kernel_rfl) (fun _ _ _ h => h) (Or.inl ⟨by kernel_rfl, ?_⟩) hS ?_
                                          rotate_left
                                          · intro w' hSw
                                            obtain ⟨g0, g1, g2, g3, _⟩ := hSw
                                            first | (go_simp; done) | (go_simp; with_reducible rfl)
                                          simp only [List.getElem_toArray, List.getElem_cons_zero, List.getElem_cons_succ, Act.put, List.setIfInBounds_toArray, List.set_cons_zero, List.set_cons_succ]
                                          refine wpAnyH_done (by kernel_rfl) ?_ _
                                          go_wp2_with fail
                                          go_meet
                                          exact ⟨rfl, hS.2.2.2.2⟩
                                        case rest => as_aux_lemma =>
                                          obtain ⟨rfl, hgx⟩ := hcut
                                          have HZ := Lib.hid (grownBy_trans HX.out.1 (grownBy_trans HI.out.1 hgx))
                                          have HQ2 := Lib.hid (HM.out (fun h => HQ.out h.2.2.2))
                                          clear hgx c0 c1 c2 c3 hd
                                          go_wp2_with fail
                                          go_ret
                                          exact ⟨ret_no (fun h => ups_no2 HQ2.out h.2.2.2.2.2.1), HZ.out⟩
                                    · obtain rfl : i = xl.length := by omega
                                      have HQ := Lib.hid (HN.out ⟨HG.out.1, HG.out.2.1, HG.out.2.2, by have h2 := HI.out.2; rw [List.take_length] at h2; exact h2⟩)
                                      go_wp2_with fail
                                      go_roundw
                                      case rel => exact ⟨j + 1, hlt, by go_num, grownBy_trans HX.out.2.2.2.2.2 HI.out.1, HQ.out⟩
                                      case measure => simp [intOf]; omega
                            · have hnd := decide_eq_false g2
                              have HQ := Lib.hid (HM.out (fun h => g2 h.2.1))
                              have hb1 : (xk != 2) = false := by simp [g1]
                              have hb2 : (xk == 2) = true := by simp [g1]
                              clear g1 g2
                              go_cut [199] (fun s199 wx => s199 = .bool true ∧ w8.grownBy wx none)
                              case first => as_aux_lemma =>
                                refine wp_region_held_drew (S := fun w' => w'.cell? ⟨P, 0, none⟩ = some (.int .i64 xk) ∧ w'.cell? ⟨P, 1, none⟩ = some (.int .i64 xf) ∧ w'.cell? ⟨P, 2, none⟩ = some (.int .i64 xn) ∧ w'.cell? ⟨P, 3, none⟩ = some (.slice xa xl.length xc) ∧ w'.cell? ⟨B, 11, none⟩ = some (.slice ga gl.length gc) ∧ w8.grownBy w' none) (by kernel_rfl) (by have hd : w8.grownBy w8.drew none := ⟨rfl, rfl, rfl, Nat.le_refl _, fun _ _ _ => rfl⟩; exact ⟨(hd).cell c0 (by simp), (hd).cell c1 (by simp), (hd).cell c2 (by simp), (hd).cell c3 (by simp), (hd).cell c4 (by simp), hd⟩) (fun hS => ?_)
                                refine wpAnyH_take (i := 0) (v := ?_) rfl (by kernel_rfl) (by kernel_rfl) (by kernel_rfl) (fun _ _ _ h => h) (Or.inl ⟨by kernel_rfl, ?_⟩) hS ?_
                                rotate_left
                                · intro w' hSw
                                  obtain ⟨g0, g1, g2, g3, g4, _⟩ := hSw
                                  first | (go_simp; done) | (go_simp; with_reducible rfl)
                                simp only [List.getElem_toArray, List.getElem_cons_zero, Act.put, List.setIfInBounds_toArray, List.set_cons_zero, List.set_cons_succ]
                                refine wpAnyH_take (i := 1) (v := ?_) rfl (by kernel_rfl) (by kernel_rfl) (by kernel_rfl) (fun _ _ _ h => h) (Or.inl ⟨by kernel_rfl, ?_⟩) hS ?_
                                rotate_left
                                · intro w' hSw
                                  obtain ⟨g0, g1, g2, g3, g4, _⟩ := hSw
                                  first | (go_simp; done) | (go_simp; with_reducible rfl)
                                simp only [List.getElem_toArray, List.getElem_cons_zero, List.getElem_cons_succ, Act.put, List.setIfInBounds_toArray, List.set_cons_zero, List.set_cons_succ]
                                refine wpAnyH_take (i := 2) (v := ?_) rfl (by kernel_rfl) (by kernel_rfl) (by kernel_rfl) (fun _ _ _ h => h) (Or.inl ⟨by kernel_rfl, ?_⟩) hS ?_
                                rotate_left
                                · intro w' hSw
                                  obtain ⟨g0, g1, g2, g3, g4, _⟩ := hSw
                                  first | (go_simp; done) | (go_simp; with_reducible rfl)
                                simp only [List.getElem_toArray, List.getElem_cons_zero, List.getElem_cons_succ, Act.put, List.setIfInBounds_toArray, List.set_cons_zero, List.set_cons_succ]
                                refine wpAnyH_take (i := 3) (v := ?_) rfl (by kernel_rfl) (by kernel_rfl) (by kernel_rfl) (fun _ _ _ h => h) (Or.inl ⟨by kernel_rfl, ?_⟩) hS ?_
                                rotate_left
                                · intro w' hSw
                                  obtain ⟨g0, g1, g2, g3, g4, _⟩ := hSw
                                  first | (go_simp; done) | (go_simp; with_reducible rfl)
                                simp only [List.getElem_toArray, List.getElem_cons_zero, List.getElem_cons_succ, Act.put, List.setIfInBounds_toArray, List.set_cons_zero, List.set_cons_succ]
                                refine wpAnyH_take (i := 4) (v := ?_) rfl (by kernel_rfl) (by kernel_rfl) (by kernel_rfl) (fun _ _ _ h => h) (Or.inl ⟨by kernel_rfl, ?_⟩) hS ?_
                                rotate_left
                                · intro w' hSw
                                  obtain ⟨g0, g1, g2, g3, g4, _⟩ := hSw
                                  first | (go_simp; done) | (go_simp; with_reducible rfl)
                                simp only [List.getElem_toArray, List.getElem_cons_zero, List.getElem_cons_succ, Act.put, List.setIfInBounds_toArray, List.set_cons_zero, List.set_cons_succ]
                                refine wpAnyH_ready (rs := [5]) (by kernel_rfl) (List.cons_ne_nil _ _) ?_
                                refine AllReadyH.cons rfl (fun K hK => ?_) AllReadyH.nil
                                go_simp
                                go_at_call 14
                                refine (note_S xk xf xn xa xc xl _ (H9.out.2.2.2.2.kept (hS.2.2.2.2.2)) hxm).mono ?_
                                rintro e u1 ⟨rfl, hg⟩
                                rw [hnd]
                                have hF := grownBy_trans (hS.2.2.2.2.2) hg
                                clear hg
                                refine hK.out _ _ (⟨(hF).cell c0 (by simp), (hF).cell c1 (by simp), (hF).cell c2 (by simp), (hF).cell c3 (by simp), (hF).cell c4 (by simp), hF⟩) (fun hS => ?_)
                                clear hF
                                clear hK
                                try simp only [List.getElem_toArray, List.getElem_cons_zero, List.getElem_cons_succ, Act.put, List.setIfInBounds_toArray, List.set_cons_zero, List.set_cons_succ]
                                refine wpAnyH_take (i := 6) (v := ?_) rfl (by kernel_rfl) (by kernel_rfl) (by kernel_rfl) (fun _ _ _ h => h) (Or.inl ⟨by kernel_rfl, ?_⟩) hS ?_
                                rotate_left
                                · intro w' hSw
                                  obtain ⟨g0, g1, g2, g3, g4, _⟩ := hSw
                                  first | (go_simp; done) | (go_simp; with_reducible rfl)
                                simp only [List.getElem_toArray, List.getElem_cons_zero, List.getElem_cons_succ, Act.put, List.setIfInBounds_toArray, List.set_cons_zero, List.set_cons_succ]
                                refine wpAnyH_take (i := 7) (v := ?_) rfl (by kernel_rfl) (by kernel_rfl) (by kernel_rfl) (fun _ _ _ h => h) (Or.inl ⟨by kernel_rfl, ?_⟩) hS ?_
                                rotate_left
                                · intro w' hSw
                                  obtain ⟨g0, g1, g2, g3, g4, _⟩ := hSw
                                  first | (go_simp; done) | (go_simp; with_reducible rfl)
                                simp only [List.getElem_toArray, List.getElem_cons_zero, List.getElem_cons_succ, Act.put, List.setIfInBounds_toArray, List.set_cons_zero, List.set_cons_succ]
                                refine wpAnyH_take (i := 8) (v := ?_) rfl (by kernel_rfl) (by kernel_rfl) (by kernel_rfl) (fun _ _ _ h => h) (Or.inl ⟨by kernel_rfl, ?_⟩) hS ?_
                                rotate_left
                                · intro w' hSw
                                  obtain ⟨g0, g1, g2, g3, g4, _⟩ := hSw
                                  first | (go_simp; done) | (go_simp; with_reducible rfl)
                                simp only [List.getElem_toArray, List.getElem_cons_zero, List.getElem_cons_succ, Act.put, List.setIfInBounds_toArray, List.set_cons_zero, List.set_cons_succ]
                                refine wpAnyH_take (i := 9) (v := undef) rfl (by kernel_rfl) (by kernel_rfl) (by kernel_rfl) (fun _ _ _ h => h) (Or.inr ⟨by kernel_rfl, rfl⟩) hS ?_
                                simp only [List.getElem_toArray, List.getElem_cons_zero, List.getElem_cons_succ, Act.put, List.setIfInBounds_toArray, List.set_cons_zero, List.set_cons_succ]
                                refine wpAnyH_take (i := 10) (v := undef) rfl (by kernel_rfl) (by kernel_rfl) (by kernel_rfl) (fun _ _ _ h => h) (Or.inr ⟨by kernel_rfl, rfl⟩) hS ?_
                                simp only [List.getElem_toArray, List.getElem_cons_zero, List.getElem_cons_succ, Act.put, List.setIfInBounds_toArray, List.set_cons_zero, List.set_cons_succ]
                                refine wpAnyH_take (i := 11) (v := undef) rfl (by kernel_rfl) (by kernel_rfl) (by kernel_rfl) (fun _ _ _ h => h) (Or.inr ⟨by kernel_rfl, rfl⟩) hS ?_
                                simp only [List.getElem_toArray, List.getElem_cons_zero, List.getElem_cons_succ, Act.put, List.setIfInBounds_toArray, List.set_cons_zero, List.set_cons_succ]
                                refine wpAnyH_take (i := 12) (v := undef) rfl (by kernel_rfl) (by kernel_rfl) (by kernel_rfl) (fun _ _ _ h => h) (Or.inr ⟨by kernel_rfl, rfl⟩) hS ?_
                                simp only [List.getElem_toArray, List.getElem_cons_zero, List.getElem_cons_succ, Act.put, List.setIfInBounds_toArray, List.set_cons_zero, List.set_cons_succ]
                                refine wpAnyH_take (i := 13) (v := undef) rfl (by kernel_rfl) (by kernel_rfl) (by kernel_rfl) (fun _ _ _ h => h) (Or.inr ⟨by kernel_rfl, rfl⟩) hS ?_
                                simp only [List.getElem_toArray, List.getElem_cons_zero, List.getElem_cons_succ, Act.put, List.setIfInBounds_toArray, List.set_cons_zero, List.set_cons_succ]
                                refine wpAnyH_take (i := 14) (v := undef) rfl (by kernel_rfl) (by kernel_rfl) (by kernel_rfl) (fun _ _ _ h => h) (Or.inr ⟨by kernel_rfl, rfl⟩) hS ?_
                                simp only [List.getElem_toArray, List.getElem_cons_zero, List.getElem_cons_succ, Act.put, List.setIfInBounds_toArray, List.set_cons_zero, List.set_cons_succ]
                                refine wpAnyH_take (i := 15) (v := undef) rfl (by kernel_rfl) (by kernel_rfl) (by kernel_rfl) (fun _ _ _ h => h) (Or.inr ⟨by kernel_rfl, rfl⟩) hS ?_
                                simp only [List.getElem_toArray, List.getElem_cons_zero, List.getElem_cons_succ, Act.put, List.setIfInBounds_toArray, List.set_cons_zero, List.set_cons_succ]
                                refine wpAnyH_take (i := 16) (v := ?_) rfl (by kernel_rfl) (by kernel_rfl) (by kernel_rfl) (fun _ _ _ h => h) (Or.inl ⟨by kernel_rfl, ?_⟩) hS ?_
                                rotate_left
                                · intro w' hSw
                                  obtain ⟨g0, g1, g2, g3, g4, _⟩ := hSw
                                  first | (go_simp; done) | (go_simp; with_reducible rfl)
                                simp only [List.getElem_toArray, List.getElem_cons_zero, List.getElem_cons_succ, Act.put, List.setIfInBounds_toArray, List.set_cons_zero, List.set_cons_succ]
                                refine wpAnyH_done (by kernel_rfl) ?_ _
                                go_wp2_with fail
                                go_meet
                                exact ⟨rfl, hS.2.2.2.2.2⟩
                              case rest => as_aux_lemma =>
                                obtain ⟨rfl, hgx⟩ := hcut
                                have HZ := Lib.hid (grownBy_trans H9.out.1 hgx)
                                clear hgx c0 c1 c2 c3 c4 hnd hb1 hb2
                                go_wp2_with fail
                                go_ret
                                exact ⟨ret_no (fun h => ups_no2 HQ.out h.2.2.2.2.2.1), HZ.out⟩
                          · have HQ := Lib.hid (HM.out (fun h => g1 h.1))
                            have hb1 : (xk != 2) = true := by simp only [bne, Bool.not_eq_true', beq_eq_false_iff_ne]; exact g1
                            have hb2 : (xk == 2) = false := by simp only [beq_eq_false_iff_ne]; exact g1
                            clear g1
                            go_cut [199] (fun s199 wx => s199 = .bool true ∧ w8.grownBy wx none)
                            case first => as_aux_lemma =>
                              refine wp_region_held_drew (S := fun w' => w'.cell? ⟨P, 0, none⟩ = some (.int .i64 xk) ∧ w'.cell? ⟨P, 1, none⟩ = some (.int .i64 xf) ∧ w'.cell? ⟨P, 2, none⟩ = some (.int .i64 xn) ∧ w'.cell? ⟨P, 3, none⟩ = some (.slice xa xl.length xc) ∧ w'.cell? ⟨B, 11, none⟩ = some (.slice ga gl.length gc) ∧ w8.grownBy w' none) (by kernel_rfl) (by have hd : w8.grownBy w8.drew none := ⟨rfl, rfl, rfl, Nat.le_refl _, fun _ _ _ => rfl⟩; exact ⟨(hd).cell c0 (by simp), (hd).cell c1 (by simp), (hd).cell c2 (by simp), (hd).cell c3 (by simp), (hd).cell c4 (by simp), hd⟩) (fun hS => ?_)
                              refine wpAnyH_take (i := 0) (v := ?_) rfl (by kernel_rfl) (by kernel_rfl) (by kernel_rfl) (fun _ _ _ h => h) (Or.inl ⟨by kernel_rfl, ?_⟩) hS ?_
                              rotate_left
                              · intro w' hSw
                                obtain ⟨g0, g1, g2, g3, g4, _⟩ := hSw
                                first | (go_simp; done) | (go_simp; with_reducible rfl)
                              simp only [List.getElem_toArray, List.getElem_cons_zero, Act.put, List.setIfInBounds_toArray, List.set_cons_zero, List.set_cons_succ]
                              refine wpAnyH_take (i := 1) (v := ?_) rfl (by kernel_rfl) (by kernel_rfl) (by kernel_rfl) (fun _ _ _ h => h) (Or.inl ⟨by kernel_rfl, ?_⟩) hS ?_
                              rotate_left
                              · intro w' hSw
                                obtain ⟨g0, g1, g2, g3, g4, _⟩ := hSw
                                first | (go_simp; done) | (go_simp; with_reducible rfl)
                              simp only [List.getElem_toArray, List.getElem_cons_zero, List.getElem_cons_succ, Act.put, List.setIfInBounds_toArray, List.set_cons_zero, List.set_cons_succ]
                              refine wpAnyH_take (i := 2) (v := ?_) rfl (by kernel_rfl) (by kernel_rfl) (by kernel_rfl) (fun _ _ _ h => h) (Or.inl ⟨by kernel_rfl, ?_⟩) hS ?_
                              rotate_left
                              · intro w' hSw
                                obtain ⟨g0, g1, g2, g3, g4, _⟩ := hSw
                                first | (go_simp; done) | (go_simp; with_reducible rfl)
                              simp only [List.getElem_toArray, List.getElem_cons_zero, List.getElem_cons_succ, Act.put, List.setIfInBounds_toArray, List.set_cons_zero, List.set_cons_succ]
                              refine wpAnyH_take (i := 3) (v := ?_) rfl (by kernel_rfl) (by kernel_rfl) (by kernel_rfl) (fun _ _ _ h => h) (Or.inl ⟨by kernel_rfl, ?_⟩) hS ?_
                              rotate_left
                              · intro w' hSw
                                obtain ⟨g0, g1, g2, g3, g4, _⟩ := hSw
                                first | (go_simp; done) | (go_simp; with_reducible rfl)
                              simp only [List.getElem_toArray, List.getElem_cons_zero, List.getElem_cons_succ, Act.put, List.setIfInBounds_toArray, List.set_cons_zero, List.set_cons_succ]
                              refine wpAnyH_take (i := 4) (v := undef) rfl (by kernel_rfl) (by kernel_rfl) (by kernel_rfl) (fun _ _ _ h => h) (Or.inr ⟨by kernel_rfl, rfl⟩) hS ?_
                              simp only [List.getElem_toArray, List.getElem_cons_zero, List.getElem_cons_succ, Act.put, List.setIfInBounds_toArray, List.set_cons_zero, List.set_cons_succ]
                              refine wpAnyH_take (i := 5) (v := undef) rfl (by kernel_rfl) (by kernel_rfl) (by kernel_rfl) (fun _ _ _ h => h) (Or.inr ⟨by kernel_rfl, rfl⟩) hS ?_
                              simp only [List.getElem_toArray, List.getElem_cons_zero, List.getElem_cons_succ, Act.put, List.setIfInBounds_toArray, List.set_cons_zero, List.set_cons_succ]
                              refine wpAnyH_take (i := 6) (v := undef) rfl (by kernel_rfl) (by kernel_rfl) (by kernel_rfl) (fun _ _ _ h => h) (Or.inr ⟨by kernel_rfl, rfl⟩) hS ?_
                              simp only [List.getElem_toArray, List.getElem_cons_zero, List.getElem_cons_succ, Act.put, List.setIfInBounds_toArray, List.set_cons_zero, List.set_cons_succ]
                              refine wpAnyH_take (i := 7) (v := ?_) rfl (by kernel_rfl) (by kernel_rfl) (by kernel_rfl) (fun _ _ _ h => h) (Or.inl ⟨by kernel_rfl, ?_⟩) hS ?_
                              rotate_left
                              · intro w' hSw
                                obtain ⟨g0, g1, g2, g3, g4, _⟩ := hSw
                                first | (go_simp; done) | (go_simp; with_reducible rfl)
                              simp only [List.getElem_toArray, List.getElem_cons_zero, List.getElem_cons_succ, Act.put, List.setIfInBounds_toArray, List.set_cons_zero, List.set_cons_succ]
                              refine wpAnyH_take (i := 8) (v := ?_) rfl (by kernel_rfl) (by kernel_rfl) (by kernel_rfl) (fun _ _ _ h => h) (Or.inl ⟨by kernel_rfl, ?_⟩) hS ?_
                              rotate_left
                              · intro w' hSw
                                obtain ⟨g0, g1, g2, g3, g4, _⟩ := hSw
                                first | (go_simp; done) | (go_simp; with_reducible rfl)
                              simp only [List.getElem_toArray, List.getElem_cons_zero, List.getElem_cons_succ, Act.put, List.setIfInBounds_toArray, List.set_cons_zero, List.set_cons_succ]
                              refine wpAnyH_take (i := 9) (v := undef) rfl (by kernel_rfl) (by kernel_rfl) (by kernel_rfl) (fun _ _ _ h => h) (Or.inr ⟨by kernel_rfl, rfl⟩) hS ?_
                              simp only [List.getElem_toArray, List.getElem_cons_zero, List.getElem_cons_succ, Act.put, List.setIfInBounds_toArray, List.set_cons_zero, List.set_cons_succ]
                              refine wpAnyH_take (i := 10) (v := undef) rfl (by kernel_rfl) (by kernel_rfl) (by kernel_rfl) (fun _ _ _ h => h) (Or.inr ⟨by kernel_rfl, rfl⟩) hS ?_
                              simp only [List.getElem_toArray, List.getElem_cons_zero, List.getElem_cons_succ, Act.put, List.setIfInBounds_toArray, List.set_cons_zero, List.set_cons_succ]
                              refine wpAnyH_take (i := 11) (v := undef) rfl (by kernel_rfl) (by kernel_rfl) (by kernel_rfl) (fun _ _ _ h => h) (Or.inr ⟨by kernel_rfl, rfl⟩) hS ?_
                              simp only [List.getElem_toArray, List.getElem_cons_zero, List.getElem_cons_succ, Act.put, List.setIfInBounds_toArray, List.set_cons_zero, List.set_cons_succ]
                              refine wpAnyH_take (i := 12) (v := undef) rfl (by kernel_rfl) (by kernel_rfl) (by kernel_rfl) (fun _ _ _ h => h) (Or.inr ⟨by kernel_rfl, rfl⟩) hS ?_
                              simp only [List.getElem_toArray, List.getElem_cons_zero, List.getElem_cons_succ, Act.put, List.setIfInBounds_toArray, List.set_cons_zero, List.set_cons_succ]
                              refine wpAnyH_take (i := 13) (v := undef) rfl (by kernel_rfl) (by kernel_rfl) (by kernel_rfl) (fun _ _ _ h => h) (Or.inr ⟨by kernel_rfl, rfl⟩) hS ?_
                              simp only [List.getElem_toArray, List.getElem_cons_zero, List.getElem_cons_succ, Act.put, List.setIfInBounds_toArray, List.set_cons_zero, List.set_cons_succ]
                              refine wpAnyH_take (i := 14) (v := undef) rfl (by kernel_rfl) (by kernel_rfl) (by kernel_rfl) (fun _ _ _ h => h) (Or.inr ⟨by kernel_rfl, rfl⟩) hS ?_
                              simp only [List.getElem_toArray, List.getElem_cons_zero, List.getElem_cons_succ, Act.put, List.setIfInBounds_toArray, List.set_cons_zero, List.set_cons_succ]
                              refine wpAnyH_take (i := 15) (v := undef) rfl (by kernel_rfl) (by kernel_rfl) (by kernel_rfl) (fun _ _ _ h => h) (Or.inr ⟨by kernel_rfl, rfl⟩) hS ?_
                              simp only [List.getElem_toArray, List.getElem_cons_zero, List.getElem_cons_succ, Act.put, List.setIfInBounds_toArray, List.set_cons_zero, List.set_cons_succ]
                              refine wpAnyH_take (i := 16) (v := ?_) rfl (by kernel_rfl) (by kernel_rfl) (by kernel_rfl) (fun _ _ _ h => h) (Or.inl ⟨by kernel_rfl, ?_⟩) hS ?_
                              rotate_left
                              · intro w' hSw
                                obtain ⟨g0, g1, g2, g3, g4, _⟩ := hSw
                                first | (go_simp; done) | (go_simp; with_reducible rfl)
                              simp only [List.getElem_toArray, List.getElem_cons_zero, List.getElem_cons_succ, Act.put, List.setIfInBounds_toArray, List.set_cons_zero, List.set_cons_succ]
                              refine wpAnyH_done (by kernel_rfl) ?_ _
                              go_wp2_with fail
                              go_meet
                              exact ⟨rfl, hS.2.2.2.2.2⟩
                            case rest => as_aux_lemma =>
                              obtain ⟨rfl, hgx⟩ := hcut
                              have HZ := Lib.hid (grownBy_trans H9.out.1 hgx)
                              clear hgx c0 c1 c2 c3 c4 hb1 hb2
                              go_wp2_with fail
                              go_ret
                              exact ⟨ret_no (fun h => ups_no2 HQ.out h.2.2.2.2.2.1), HZ.out⟩
                        · obtain rfl : j = ul.length := by omega
                          have HQU := Lib.hid (show ∀ x ∈ ul, upW gl x.o by have h2 := HS.out.2; rw [List.take_length] at h2; exact h2)
                          go_wp2_with fail
                          go_ret
                          exact ⟨ret_yes ⟨HW.out.1, HW.out.2.1, HW.out.2.2.1, ⟨HP.out, HU.out, HQP.out, HQS.out⟩, ⟨HQD.out, HW.out.2.2.2.2.1⟩, ups_yes2 HW.out.2.2.2.2.2.1 HQU.out, (notesO_iff nl).1 HW.out.2.2.2.2.2.2⟩, HV.out.1⟩

end Go.Proofs.Ytedhemllgpbheaa

