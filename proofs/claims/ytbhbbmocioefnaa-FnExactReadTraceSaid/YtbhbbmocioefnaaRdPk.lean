/- The program's own reading of a packet of a block: what is right is read, at what is not it gives up. -/
import Derived.Test.YtbhbbmocioefnaaRdBlk
import Derived.Test.YtbhbbmocioefnaaBlkB
namespace Go.Proofs.Ytbhbbmocioefnaa
open Go.RowKit

theorem require_not (p : Value) (b : Bool) (w : World) (h : b = false) : Calls Try.prog 82 #[p, .bool b] w fun e w' => e = .panicked [PE] ∧ w = w' := by
  rw [h]
  exact require_panic p w

def hiOf (t : List UInt8) (a : Nat) (big : Bool) : Int := numOf ((t.drop a).take 4) big
def timeOf (t : List UInt8) (a : Nat) (big : Bool) : Int := hiOf t a big * 4294967296 + hiOf t (a + 4) big
structure TimeR (t : List UInt8) (a : Nat) (big : Bool) : Prop where
  here : a + 8 ≤ t.length
  high : hiOf t a big ≤ 232
  most : timeOf t a big ≤ 1000000000000
theorem hi_bd (t : List UInt8) (a : Nat) (big : Bool) (h : a + 4 ≤ t.length) : 0 ≤ hiOf t a big ∧ hiOf t a big < 4294967296 := (numOf_four _ big (by simp; omega)).2

def TimePost (w : World) (B : Nat) (t : List UInt8) (a : Nat) (big : Bool) (e : Ending) (w' : World) : Prop :=
  e = .returned (.int .i64 (timeOf t a big)) ∧ w.grownBy w' (some B) ∧ RS w' B t (a + 8) big

set_option maxRecDepth 100000 in
theorem time_yes (B : Nat) (t : List UInt8) (a : Nat) (big : Bool) (w : World) (h : RS w B t a big) (hT : TimeR t a big) :
    Calls Try.prog 84 #[.pointer (some ⟨B, 0, none⟩)] w (TimePost w B t a big) := by
  have HR := Lib.hid h
  have hh := hT.here
  have b1 := hi_bd t a big (by omega)
  have b2 := hi_bd t (a + 4) big (by omega)
  have e1 := hT.high
  have HE := Lib.hid (show hiOf t a big * 4294967296 + hiOf t (a + 4) big ≤ 1000000000000 from hT.most)
  clear h hT
  go_enter Try.func84, Try.ntmps84
  go_wp2_with fail
  refine (number_ok B t a big _ HR.out (by omega)).mono ?_
  rintro e w1 ⟨rfl, hg, hr⟩
  rw [show numOf ((t.drop a).take 4) big = hiOf t a big from rfl]
  have H1 := Lib.hid (And.intro hg hr)
  clear hg hr
  go_wp2_with fail
  refine (number_ok B t (a + 4) big _ H1.out.2 (by omega)).mono ?_
  rintro e w2 ⟨rfl, hg, hr⟩
  rw [show numOf ((t.drop (a + 4)).take 4) big = hiOf t (a + 4) big from rfl]
  have H2 := Lib.hid (And.intro (grownBy_trans H1.out.1 hg) hr)
  have HT := Lib.hid (show timeOf t a big = hiOf t a big * 4294967296 + hiOf t (a + 4) big from rfl)
  clear hg hr
  generalize hiOf t a big = x at *
  generalize hiOf t (a + 4) big = y at *
  go_wp2_with fail
  refine (require_ok _ _).mono ?_
  rintro e w' ⟨rfl, rfl⟩
  have hxy : x * 4294967296 + y ≤ 1000000000000 := HE.out
  go_wp2_with fail
  refine (require_ok _ _).mono ?_
  rintro e w' ⟨rfl, rfl⟩
  go_wp2_with fail
  go_ret
  exact ⟨by rw [HT.out]; rfl, H2.out.1, by rw [show a + 8 = a + 4 + 4 from by omega]; exact H2.out.2⟩

set_option maxRecDepth 100000 in
set_option maxHeartbeats 600000 in
theorem time_no (B : Nat) (t : List UInt8) (a : Nat) (big : Bool) (w : World) (h : RS w B t a big) (hT : ¬ TimeR t a big) (_ha : a ≤ 1000000) :
    Calls Try.prog 84 #[.pointer (some ⟨B, 0, none⟩)] w (PanicPost w B) := by
  have HR := Lib.hid h
  have HN := Lib.hid hT
  clear h hT
  go_enter Try.func84, Try.ntmps84
  go_wp2_with fail
  by_cases h4 : t.length < a + 4
  · refine (number_panic B t a big _ HR.out h4).mono ?_
    rintro e w1 ⟨rfl, hg⟩
    exact ⟨rfl, rfl, hg⟩
  · have b1 := hi_bd t a big (by omega)
    refine (number_ok B t a big _ HR.out (by omega)).mono ?_
    rintro e w1 ⟨rfl, hg, hr⟩
    rw [show numOf ((t.drop a).take 4) big = hiOf t a big from rfl]
    have H1 := Lib.hid (And.intro hg hr)
    clear hg hr
    go_wp2_with fail
    by_cases h8 : t.length < a + 8
    · refine (number_panic B t (a + 4) big _ H1.out.2 (by omega)).mono ?_
      rintro e w2 ⟨rfl, hg⟩
      exact ⟨rfl, rfl, grownBy_trans H1.out.1 hg⟩
    · have b2 := hi_bd t (a + 4) big (by omega)
      refine (number_ok B t (a + 4) big _ H1.out.2 (by omega)).mono ?_
      rintro e w2 ⟨rfl, hg, hr⟩
      rw [show numOf ((t.drop (a + 4)).take 4) big = hiOf t (a + 4) big from rfl]
      have H2 := Lib.hid (And.intro (grownBy_trans H1.out.1 hg) hr)
      have HX := Lib.hid (show ¬ (hiOf t a big ≤ 232 ∧ hiOf t a big * 4294967296 + hiOf t (a + 4) big ≤ 1000000000000) from fun hh => HN.out ⟨by omega, hh.1, hh.2⟩)
      clear hg hr
      generalize hiOf t a big = x at *
      generalize hiOf t (a + 4) big = y at *
      by_cases hx : x ≤ 232
      · have hxy : ¬ x * 4294967296 + y ≤ 1000000000000 := fun hh => HX.out ⟨hx, hh⟩
        go_wp2_with fail
        refine (require_ok _ _).mono ?_
        rintro e w' ⟨rfl, rfl⟩
        go_wp2_with fail
        refine (require_not _ _ _ (by first | rfl | (simp; omega))).mono ?_
        rintro e w3 ⟨rfl, rfl⟩
        exact ⟨rfl, rfl, H2.out.1⟩
      · go_wp2_with fail
        refine (require_not _ _ _ (by first | rfl | (simp; omega))).mono ?_
        rintro e w3 ⟨rfl, rfl⟩
        exact ⟨rfl, rfl, H2.out.1⟩

/-- The body of a block is a right packet, of q bytes. -/
structure PkR (t : List UInt8) (big : Bool) (q : Nat) : Prop where
  time : TimeR t 4 big
  size : hiOf t 12 big = (q : Int)
  most : q ≤ 400
  whole : (q : Int) ≤ hiOf t 16 big
  here : 20 + q ≤ t.length
def PkPost (w : World) (B : Nat) (t : List UInt8) (big : Bool) (q : Nat) (e : Ending) (w' : World) : Prop :=
  e = .returned (.agg #[.int .i64 (timeOf t 4 big), .string ⟨((t.drop 20).take q).toArray⟩]) ∧ w.grownBy w' (some B) ∧ RS w' B t (20 + q) big

set_option maxRecDepth 100000 in
set_option maxHeartbeats 1000000 in
theorem packet_yes (B : Nat) (t : List UInt8) (big : Bool) (q : Nat) (w : World) (h : RS w B t 0 big) (hP : PkR t big q) :
    Calls Try.prog 64 #[.pointer (some ⟨B, 0, none⟩)] w (PkPost w B t big q) := by
  have hB := World.block_lt_of_cell? w ⟨B, 1, none⟩ h.c1
  have HR := Lib.hid h
  have hh := hP.here
  have hm := hP.most
  have HP := Lib.hid hP
  clear h hP
  go_enter Try.func64, Try.ntmps64
  go_wp2_with fail
  refine (bytes_ok B t 0 4 big _ (HR.out.kept (World.grownBy_alloc _ _ _)) (by omega)).mono ?_
  rintro e w1 ⟨rfl, hg, hr⟩
  have H1 := Lib.hid (And.intro (grownBy_trans (grown_some (World.grownBy_alloc _ _ _)) hg) hr)
  have c1 := hg.cell (a := ⟨w.heap.size, 0, none⟩) (v := .int .i64 0) (by go_simp) (by simp; omega)
  have d1 := hg.cell (a := ⟨w.heap.size, 1, none⟩) (v := .string ⟨#[]⟩) (by go_simp) (by simp; omega)
  have f1 := grown_frozen hg (p := ⟨w.heap.size, 0, none⟩) (v := .int .i64 0) (by go_simp) (by simp; omega) (x := false) (by go_simp)
  have e1 := grown_frozen hg (p := ⟨w.heap.size, 1, none⟩) (v := .string ⟨#[]⟩) (by go_simp) (by simp; omega) (x := false) (by go_simp)
  clear hg hr
  go_wp2_with fail
  refine (time_yes B t 4 big _ H1.out.2 HP.out.time).mono ?_
  rintro e w2 ⟨rfl, hg, hr⟩
  have H2 := Lib.hid (And.intro (grownBy_trans H1.out.1 hg) hr)
  have c2 := hg.cell c1 (by simp; omega)
  have d2 := hg.cell d1 (by simp; omega)
  have f2 := grown_frozen hg c1 (by simp; omega) f1
  have e2 := grown_frozen hg d1 (by simp; omega) e1
  clear c1 d1 f1 e1
  clear hg hr
  go_wp2_with fail
  refine (number_ok B t 12 big _ H2.out.2 (by omega)).mono ?_
  rintro e w3 ⟨rfl, hg, hr⟩
  rw [show numOf ((t.drop 12).take 4) big = (q : Int) from HP.out.size]
  have H3 := Lib.hid (And.intro (grownBy_trans H2.out.1 hg) hr)
  have c3 := hg.cell c2 (by simp; omega)
  have d3 := hg.cell d2 (by simp; omega)
  have f3 := grown_frozen hg c2 (by simp; omega) f2
  have e3 := grown_frozen hg d2 (by simp; omega) e2
  clear c2 d2 f2 e2
  clear hg hr
  go_wp2_with fail
  refine (number_ok B t 16 big _ H3.out.2 (by omega)).mono ?_
  rintro e w4 ⟨rfl, hg, hr⟩
  rw [show numOf ((t.drop 16).take 4) big = hiOf t 16 big from rfl]
  have H4 := Lib.hid (And.intro (grownBy_trans H3.out.1 hg) hr)
  have c4 := hg.cell c3 (by simp; omega)
  have d4 := hg.cell d3 (by simp; omega)
  have f4 := grown_frozen hg c3 (by simp; omega) f3
  have e4 := grown_frozen hg d3 (by simp; omega) e3
  clear c3 d3 f3 e3
  clear hg hr
  have hq1 : (q : Int) ≤ 400 := by omega
  have hq2 : (q : Int) ≤ hiOf t 16 big := HP.out.whole
  generalize hiOf t 16 big = y at *
  generalize hx : timeOf t 4 big = x at *
  have hTX := Lib.hid hx
  clear hx
  go_wp2_with fail
  refine (require_ok _ _).mono ?_
  rintro e w' ⟨rfl, rfl⟩
  go_wp2_with fail
  refine (bytes_ok B t 20 q big _ H4.out.2 (by omega)).mono ?_
  rintro e w5 ⟨rfl, hg, hr⟩
  have H5 := Lib.hid (And.intro (grownBy_trans H4.out.1 hg) hr)
  have c5 := hg.cell c4 (by simp; omega)
  have d5 := hg.cell d4 (by simp; omega)
  have f5 := grown_frozen hg c4 (by simp; omega) f4
  have e5 := grown_frozen hg d4 (by simp; omega) e4
  clear hg hr c4 d4 f4 e4
  go_wp2_with fail
  have hW : w5.grownBy ((w5.setCell ⟨w.heap.size, 0, none⟩ (.int .i64 x)).setCell ⟨w.heap.size, 1, none⟩ (.string ⟨((t.drop 20).take q).toArray⟩)) (some w.heap.size) := grownBy_trans (grownBy_set _ _ _ _) (grownBy_set _ _ _ _)
  refine bodyPost_ret (v := .agg #[.int .i64 x, .string ⟨((t.drop 20).take q).toArray⟩]) (by simp [results, Try.results64, go_sem, c5, d5]) rfl ⟨by rw [hTX.out], grown_other H5.out.1 hW (Nat.le_refl _), H5.out.2.other hW (by simp; omega)⟩

set_option maxRecDepth 100000 in
set_option maxHeartbeats 600000 in
theorem packet_no (B : Nat) (t : List UInt8) (big : Bool) (w : World) (h : RS w B t 0 big) (hN : ∀ q, ¬ PkR t big q) (ht : t.length ≤ 1000000) :
    Calls Try.prog 64 #[.pointer (some ⟨B, 0, none⟩)] w (PanicPost w B) := by
  have HR := Lib.hid h
  have HN := Lib.hid hN
  clear h hN
  go_enter Try.func64, Try.ntmps64
  go_wp2_with fail
  by_cases h4 : t.length < 4
  · refine (bytes_panic B t 0 4 big _ (HR.out.kept (World.grownBy_alloc _ _ _)) (by omega) (by omega)).mono ?_
    rintro e w1 ⟨rfl, hg⟩
    exact ⟨rfl, rfl, grownBy_trans (grown_some (World.grownBy_alloc _ _ _)) hg⟩
  · refine (bytes_ok B t 0 4 big _ (HR.out.kept (World.grownBy_alloc _ _ _)) (by omega)).mono ?_
    rintro e w1 ⟨rfl, hg, hr⟩
    have H1 := Lib.hid (And.intro (grownBy_trans (grown_some (World.grownBy_alloc _ _ _)) hg) hr)
    clear hg hr
    go_wp2_with fail
    by_cases hT : TimeR t 4 big
    · have hh := hT.here
      refine (time_yes B t 4 big _ H1.out.2 hT).mono ?_
      rintro e w2 ⟨rfl, hg, hr⟩
      have H2 := Lib.hid (And.intro (grownBy_trans H1.out.1 hg) hr)
      have HT := Lib.hid hT
      clear hg hr hT
      go_wp2_with fail
      by_cases h16 : t.length < 16
      · refine (number_panic B t 12 big _ H2.out.2 (by omega)).mono ?_
        rintro e w3 ⟨rfl, hg⟩
        exact ⟨rfl, rfl, grownBy_trans H2.out.1 hg⟩
      · have b1 := hi_bd t 12 big (by omega)
        refine (number_ok B t 12 big _ H2.out.2 (by omega)).mono ?_
        rintro e w3 ⟨rfl, hg, hr⟩
        rw [show numOf ((t.drop 12).take 4) big = hiOf t 12 big from rfl]
        have H3 := Lib.hid (And.intro (grownBy_trans H2.out.1 hg) hr)
        clear hg hr
        go_wp2_with fail
        by_cases h20 : t.length < 20
        · refine (number_panic B t 16 big _ H3.out.2 (by omega)).mono ?_
          rintro e w4 ⟨rfl, hg⟩
          exact ⟨rfl, rfl, grownBy_trans H3.out.1 hg⟩
        · have b2 := hi_bd t 16 big (by omega)
          refine (number_ok B t 16 big _ H3.out.2 (by omega)).mono ?_
          rintro e w4 ⟨rfl, hg, hr⟩
          rw [show numOf ((t.drop 16).take 4) big = hiOf t 16 big from rfl]
          have H4 := Lib.hid (And.intro (grownBy_trans H3.out.1 hg) hr)
          clear hg hr
          obtain ⟨q, hq⟩ := Int.eq_ofNat_of_zero_le b1.1
          have HX := Lib.hid (show ¬ (q ≤ 400 ∧ (q : Int) ≤ hiOf t 16 big ∧ 20 + q ≤ t.length) from fun hh => HN.out q ⟨HT.out, hq, hh.1, hh.2.1, hh.2.2⟩)
          rw [hq]
          clear b1 hq
          generalize hiOf t 16 big = y at *
          generalize timeOf t 4 big = x at *
          by_cases hq1 : (q : Int) ≤ 400
          · by_cases hq2 : (q : Int) ≤ y
            · go_wp2_with fail
              refine (require_ok _ _).mono ?_
              rintro e w' ⟨rfl, rfl⟩
              go_wp2_with fail
              refine (bytes_panic B t 20 q big _ H4.out.2 (by have := HX.out; omega) (by omega)).mono ?_
              rintro e w5 ⟨rfl, hg⟩
              exact ⟨rfl, rfl, grownBy_trans H4.out.1 hg⟩
            · go_wp2_with fail
              refine (require_not _ _ _ (by first | rfl | (simp; omega))).mono ?_
              rintro e w' ⟨rfl, rfl⟩
              exact ⟨rfl, rfl, H4.out.1⟩
          · go_wp2_with fail
            refine (require_not _ _ _ (by first | rfl | (simp; omega))).mono ?_
            rintro e w' ⟨rfl, rfl⟩
            exact ⟨rfl, rfl, H4.out.1⟩
    · refine (time_no B t 4 big _ H1.out.2 hT (by omega)).mono ?_
      rintro e w2 ⟨rfl, hg⟩
      exact ⟨rfl, rfl, grownBy_trans H1.out.1 hg⟩

end Go.Proofs.Ytbhbbmocioefnaa
