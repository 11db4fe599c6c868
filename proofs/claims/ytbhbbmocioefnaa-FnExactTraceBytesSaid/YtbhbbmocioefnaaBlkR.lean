/- Contracts of the program's own reading of one block: what is right is read, at what is not it gives up. -/
import Derived.Test.YtbhbbmocioefnaaRdr
namespace Go.Proofs.Ytbhbbmocioefnaa
open Go.RowKit

theorem getBe_bd (l : List UInt8) : -1 ≤ getBe l ∧ getBe l < 281474976710656 := by
  by_cases h : 1 ≤ l.length ∧ l.length ≤ 6
  · rw [getBe_in l h]
    have h0 := getN_nonneg l l.length
    have h1 := getN_small6 l l.length h.2
    omega
  · rw [getBe_out l h]; omega
theorem numOf_bd (l : List UInt8) (big : Bool) : -1 ≤ numOf l big ∧ numOf l big < 281474976710656 := by
  unfold numOf
  split
  · exact getBe_bd _
  · exact getBe_bd _

/-- What stands for the length of the first block. -/
def sizeOf (t : List UInt8) (big : Bool) : Int := numOf ((t.drop 4).take 4) big
/-- The first block is right, and has q bytes of body. -/
structure Right (t : List UInt8) (big : Bool) (q : Nat) : Prop where
  size : sizeOf t big = (q : Int) + 12
  four : q % 4 = 0
  most : q ≤ 800
  here : q + 12 ≤ t.length
  same : numOf ((t.drop (8 + q)).take 4) big = (q : Int) + 12

def BlockPost (w : World) (B : Nat) (t : List UInt8) (big : Bool) (q : Nat) (e : Ending) (w' : World) : Prop :=
  e = .returned (.agg #[.int .i64 (numOf (t.take 4) big), .string ⟨((t.drop 8).take q).toArray⟩]) ∧ w.grownBy w' (some B) ∧ RS w' B t (q + 12) big

theorem grown_frozen {a b : World} {row : Option Nat} (hg : a.grownBy b row) {p : Addr} {v : Value} (h : a.cell? p = some v) (hne : some p.block ≠ row) {x : Bool} (hf : a.frozen? p = x) : b.frozen? p = x := by
  rw [World.frozen?_of_block (hg.block p.block (World.block_lt_of_cell? a p h) hne)]
  exact hf
theorem RS.other {w w' : World} {B : Nat} {t : List UInt8} {a : Nat} {big : Bool} {row : Option Nat} (h : RS w B t a big) (hg : w.grownBy w' row) (hne : some B ≠ row) : RS w' B t a big :=
  ⟨hg.cell h.c0 hne, hg.cell h.c1 hne, hg.cell h.c2 hne, grown_frozen hg h.c1 hne h.fz, h.le, h.small⟩
theorem grown_other {a b c : World} {B r : Nat} (h : a.grownBy b (some B)) (k : b.grownBy c (some r)) (hr : a.heap.size ≤ r) : a.grownBy c (some B) :=
  ⟨k.os.trans h.os, k.tape.trans h.tape, k.output.trans h.output, Nat.le_trans h.size k.size, fun i hi hne => (k.block i (Nat.lt_of_lt_of_le hi h.size) (by simp; omega)).trans (h.block i hi hne)⟩
theorem grown_some {a b : World} {r : Nat} (h : a.grownBy b none) : a.grownBy b (some r) := ⟨h.os, h.tape, h.output, h.size, fun k hk _ => h.block k hk (by simp)⟩

set_option maxRecDepth 100000 in
set_option maxHeartbeats 1000000 in
theorem block_ok (B : Nat) (t : List UInt8) (big : Bool) (q : Nat) (w : World) (h : RS w B t 0 big) (hR : Right t big q) :
    Calls Try.prog 62 #[.pointer (some ⟨B, 0, none⟩)] w (BlockPost w B t big q) := by
  have hB := World.block_lt_of_cell? w ⟨B, 1, none⟩ h.c1
  have HR := Lib.hid h
  have HT := Lib.hid hR
  have h4 := hR.four
  have h8 := hR.most
  have hsz : sizeB (q : Int) = true := by unfold sizeB; simp; omega
  have hq := hR.here
  clear h hR
  go_enter Try.func62, Try.ntmps62
  go_wp2_with fail
  refine (number_ok B t 0 big _ (HR.out.kept (World.grownBy_alloc _ _ _)) (by omega)).mono ?_
  rintro e w1 ⟨rfl, hg, hr⟩
  have H1 := Lib.hid (And.intro (grownBy_trans (grown_some (World.grownBy_alloc _ _ _)) hg) hr)
  have c1 := hg.cell (a := ⟨w.heap.size, 0, none⟩) (v := .int .i64 0) (by go_simp) (by simp; omega)
  have d1 := hg.cell (a := ⟨w.heap.size, 1, none⟩) (v := .string ⟨#[]⟩) (by go_simp) (by simp; omega)
  have f1 := grown_frozen hg (p := ⟨w.heap.size, 0, none⟩) (v := .int .i64 0) (by go_simp) (by simp; omega) (x := false) (by go_simp)
  have e1 := grown_frozen hg (p := ⟨w.heap.size, 1, none⟩) (v := .string ⟨#[]⟩) (by go_simp) (by simp; omega) (x := false) (by go_simp)
  clear hg hr
  go_wp2_with fail
  refine (number_ok B t 4 big _ H1.out.2 (by omega)).mono ?_
  rintro e w2 ⟨rfl, hg, hr⟩
  rw [show numOf ((t.drop 4).take 4) big = (q : Int) + 12 from HT.out.size]
  have H2 := Lib.hid (And.intro (grownBy_trans H1.out.1 hg) hr)
  have c2 := hg.cell c1 (by simp; omega)
  have d2 := hg.cell d1 (by simp; omega)
  have f2 := grown_frozen hg c1 (by simp; omega) f1
  have e2 := grown_frozen hg d1 (by simp; omega) e1
  clear hg hr c1 d1 f1 e1
  go_wp2_with (first | (go_at_call 44; refine (size_any _ _).mono ?_; rintro e w' ⟨rfl, rfl⟩))
  refine (require_ok _ _).mono ?_
  rintro e w' ⟨rfl, rfl⟩
  go_wp2_with fail
  refine (bytes_ok B t 8 q big _ H2.out.2 (by omega)).mono ?_
  rintro e w3 ⟨rfl, hg, hr⟩
  have H3 := Lib.hid (And.intro (grownBy_trans H2.out.1 hg) hr)
  have c3 := hg.cell c2 (by simp; omega)
  have d3 := hg.cell d2 (by simp; omega)
  have f3 := grown_frozen hg c2 (by simp; omega) f2
  have e3 := grown_frozen hg d2 (by simp; omega) e2
  clear hg hr c2 d2 f2 e2
  go_wp2_with fail
  refine (number_ok B t (8 + q) big _ H3.out.2 (by omega)).mono ?_
  rintro e w4 ⟨rfl, hg, hr⟩
  rw [HT.out.same]
  have H4 := Lib.hid (And.intro (grownBy_trans H3.out.1 hg) hr)
  have c4 := hg.cell c3 (by simp; omega)
  have d4 := hg.cell d3 (by simp; omega)
  have f4 := grown_frozen hg c3 (by simp; omega) f3
  have e4 := grown_frozen hg d3 (by simp; omega) e3
  clear hg hr c3 d3 f3 e3
  go_wp2_with fail
  refine (require_ok _ _).mono ?_
  rintro e w' ⟨rfl, rfl⟩
  go_wp2_with fail
  have hW : w4.grownBy ((w4.setCell ⟨w.heap.size, 0, none⟩ (.int .i64 (numOf (t.take 4) big))).setCell ⟨w.heap.size, 1, none⟩ (.string ⟨((t.drop 8).take q).toArray⟩)) (some w.heap.size) := grownBy_trans (grownBy_set _ _ _ _) (grownBy_set _ _ _ _)
  refine bodyPost_ret (v := .agg #[.int .i64 (numOf (t.take 4) big), .string ⟨((t.drop 8).take q).toArray⟩]) (by simp [results, Try.results62, go_sem, c4, d4]) rfl ⟨rfl, grown_other H4.out.1 hW (Nat.le_refl _), ?_⟩
  have hr := H4.out.2.other hW (by simp; omega)
  rw [show q + 12 = 8 + q + 4 from by omega]
  exact hr

def PanicsAt (B : Nat) (_t : List UInt8) (_big : Bool) (w : World) : Prop :=
  Calls Try.prog 62 #[.pointer (some ⟨B, 0, none⟩)] w (PanicPost w B)

set_option maxRecDepth 100000 in
theorem block_p1 (B : Nat) (t : List UInt8) (big : Bool) (w : World) (h : RS w B t 0 big) (hl : t.length < 4) : PanicsAt B t big w := by
  have HR := Lib.hid h
  clear h
  unfold PanicsAt
  go_enter Try.func62, Try.ntmps62
  go_wp2_with fail
  refine (number_panic B t 0 big _ (HR.out.kept (World.grownBy_alloc _ _ _)) (by omega)).mono ?_
  rintro e w1 ⟨rfl, hg⟩
  exact ⟨rfl, rfl, grownBy_trans (grown_some (World.grownBy_alloc _ _ _)) hg⟩

set_option maxRecDepth 100000 in
theorem block_p2 (B : Nat) (t : List UInt8) (big : Bool) (w : World) (h : RS w B t 0 big) (h4 : 4 ≤ t.length) (hl : t.length < 8) : PanicsAt B t big w := by
  have HR := Lib.hid h
  clear h
  unfold PanicsAt
  go_enter Try.func62, Try.ntmps62
  go_wp2_with fail
  refine (number_ok B t 0 big _ (HR.out.kept (World.grownBy_alloc _ _ _)) (by omega)).mono ?_
  rintro e w1 ⟨rfl, hg, hr⟩
  have H1 := Lib.hid (And.intro (grownBy_trans (grown_some (World.grownBy_alloc _ _ _)) hg) hr)
  clear hg hr
  go_wp2_with fail
  refine (number_panic B t 4 big _ H1.out.2 (by omega)).mono ?_
  rintro e w2 ⟨rfl, hg⟩
  exact ⟨rfl, rfl, grownBy_trans H1.out.1 hg⟩

set_option maxRecDepth 100000 in
theorem block_p3 (B : Nat) (t : List UInt8) (big : Bool) (w : World) (h : RS w B t 0 big) (h8 : 8 ≤ t.length) (hs : sizeB (sizeOf t big - 12) = false) : PanicsAt B t big w := by
  have HR := Lib.hid h
  have hb := numOf_bd ((t.drop 4).take 4) big
  have HS := Lib.hid hs
  clear h hs
  unfold PanicsAt
  go_enter Try.func62, Try.ntmps62
  go_wp2_with fail
  refine (number_ok B t 0 big _ (HR.out.kept (World.grownBy_alloc _ _ _)) (by omega)).mono ?_
  rintro e w1 ⟨rfl, hg, hr⟩
  have H1 := Lib.hid (And.intro (grownBy_trans (grown_some (World.grownBy_alloc _ _ _)) hg) hr)
  clear hg hr
  go_wp2_with fail
  refine (number_ok B t 4 big _ H1.out.2 (by omega)).mono ?_
  rintro e w2 ⟨rfl, hg, hr⟩
  have H2 := Lib.hid (And.intro (grownBy_trans H1.out.1 hg) hr)
  clear hg hr
  go_wp2_with fail
  refine (size_any _ _).mono ?_
  rintro e w' ⟨rfl, rfl⟩
  rw [show sizeB (numOf ((t.drop 4).take 4) big - 12) = false from HS.out]
  go_wp2_with fail
  refine (require_panic _ _).mono ?_
  rintro e w3 ⟨rfl, rfl⟩
  exact ⟨rfl, rfl, H2.out.1⟩

/-- As far as the body: the length is right. -/
structure Sized (t : List UInt8) (big : Bool) (q : Nat) : Prop where
  size : sizeOf t big = (q : Int) + 12
  four : q % 4 = 0
  most : q ≤ 800
  eight : 8 ≤ t.length

set_option maxRecDepth 100000 in
theorem block_p4 (B : Nat) (t : List UInt8) (big : Bool) (q : Nat) (w : World) (h : RS w B t 0 big) (hS : Sized t big q) (hl : t.length < 8 + q) : PanicsAt B t big w := by
  have HR := Lib.hid h
  have HT := Lib.hid hS
  have h4 := hS.four
  have h8 := hS.most
  have he := hS.eight
  have hsz : sizeB (q : Int) = true := by unfold sizeB; simp; omega
  clear h hS
  unfold PanicsAt
  go_enter Try.func62, Try.ntmps62
  go_wp2_with fail
  refine (number_ok B t 0 big _ (HR.out.kept (World.grownBy_alloc _ _ _)) (by omega)).mono ?_
  rintro e w1 ⟨rfl, hg, hr⟩
  have H1 := Lib.hid (And.intro (grownBy_trans (grown_some (World.grownBy_alloc _ _ _)) hg) hr)
  clear hg hr
  go_wp2_with fail
  refine (number_ok B t 4 big _ H1.out.2 (by omega)).mono ?_
  rintro e w2 ⟨rfl, hg, hr⟩
  rw [show numOf ((t.drop 4).take 4) big = (q : Int) + 12 from HT.out.size]
  have H2 := Lib.hid (And.intro (grownBy_trans H1.out.1 hg) hr)
  clear hg hr
  go_wp2_with (first | (go_at_call 44; refine (size_any _ _).mono ?_; rintro e w' ⟨rfl, rfl⟩))
  refine (require_ok _ _).mono ?_
  rintro e w' ⟨rfl, rfl⟩
  go_wp2_with fail
  refine (bytes_panic B t 8 q big _ H2.out.2 (by omega) (by omega)).mono ?_
  rintro e w3 ⟨rfl, hg⟩
  exact ⟨rfl, rfl, grownBy_trans H2.out.1 hg⟩

set_option maxRecDepth 100000 in
theorem block_p5 (B : Nat) (t : List UInt8) (big : Bool) (q : Nat) (w : World) (h : RS w B t 0 big) (hS : Sized t big q) (hl : 8 + q ≤ t.length) (hn : t.length < q + 12 ∨ numOf ((t.drop (8 + q)).take 4) big ≠ (q : Int) + 12) : PanicsAt B t big w := by
  have HR := Lib.hid h
  have HT := Lib.hid hS
  have h4 := hS.four
  have h8 := hS.most
  have he := hS.eight
  have hsz : sizeB (q : Int) = true := by unfold sizeB; simp; omega
  have HN := Lib.hid hn
  clear h hS hn
  unfold PanicsAt
  go_enter Try.func62, Try.ntmps62
  go_wp2_with fail
  refine (number_ok B t 0 big _ (HR.out.kept (World.grownBy_alloc _ _ _)) (by omega)).mono ?_
  rintro e w1 ⟨rfl, hg, hr⟩
  have H1 := Lib.hid (And.intro (grownBy_trans (grown_some (World.grownBy_alloc _ _ _)) hg) hr)
  clear hg hr
  go_wp2_with fail
  refine (number_ok B t 4 big _ H1.out.2 (by omega)).mono ?_
  rintro e w2 ⟨rfl, hg, hr⟩
  rw [show numOf ((t.drop 4).take 4) big = (q : Int) + 12 from HT.out.size]
  have H2 := Lib.hid (And.intro (grownBy_trans H1.out.1 hg) hr)
  clear hg hr
  go_wp2_with (first | (go_at_call 44; refine (size_any _ _).mono ?_; rintro e w' ⟨rfl, rfl⟩))
  refine (require_ok _ _).mono ?_
  rintro e w' ⟨rfl, rfl⟩
  go_wp2_with fail
  refine (bytes_ok B t 8 q big _ H2.out.2 (by omega)).mono ?_
  rintro e w3 ⟨rfl, hg, hr⟩
  have H3 := Lib.hid (And.intro (grownBy_trans H2.out.1 hg) hr)
  clear hg hr
  go_wp2_with fail
  by_cases hlt : t.length < q + 12
  · refine (number_panic B t (8 + q) big _ H3.out.2 (by omega)).mono ?_
    rintro e w4 ⟨rfl, hg⟩
    exact ⟨rfl, rfl, grownBy_trans H3.out.1 hg⟩
  · refine (number_ok B t (8 + q) big _ H3.out.2 (by omega)).mono ?_
    rintro e w4 ⟨rfl, hg, hr⟩
    have H4 := Lib.hid (And.intro (grownBy_trans H3.out.1 hg) hr)
    clear hg hr
    have hne : (numOf ((t.drop (8 + q)).take 4) big == (q : Int) + 12) = false := by
      have := HN.out.resolve_left hlt
      simpa using this
    go_wp2_with fail
    refine (require_panic _ _).mono ?_
    rintro e w' ⟨rfl, rfl⟩
    exact ⟨rfl, rfl, H4.out.1⟩

/-- What is not right is given up. -/
theorem block_panic (B : Nat) (t : List UInt8) (big : Bool) (w : World) (h : RS w B t 0 big) (hN : ∀ q, ¬ Right t big q) : PanicsAt B t big w := by
  by_cases h4 : t.length < 4
  · exact block_p1 B t big w h h4
  · by_cases h8 : t.length < 8
    · exact block_p2 B t big w h (by omega) h8
    · cases hs : sizeB (sizeOf t big - 12)
      · exact block_p3 B t big w h (by omega) hs
      · have hs' : 0 ≤ sizeOf t big - 12 ∧ sizeOf t big - 12 ≤ 800 ∧ (sizeOf t big - 12) % 4 = 0 := by simpa [sizeB] using hs
        obtain ⟨q, hq⟩ := Int.eq_ofNat_of_zero_le hs'.1
        have hS : Sized t big q := ⟨by omega, by omega, by omega, by omega⟩
        by_cases hl : t.length < 8 + q
        · exact block_p4 B t big q w h hS hl
        · refine block_p5 B t big q w h hS (by omega) ?_
          by_cases hn : t.length < q + 12
          · exact .inl hn
          · refine .inr fun e => hN q ⟨hS.size, hS.four, hS.most, by omega, e⟩

end Go.Proofs.Ytbhbbmocioefnaa
