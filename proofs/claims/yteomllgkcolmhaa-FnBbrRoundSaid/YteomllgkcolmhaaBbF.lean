/- The drawings of states of pipes and of a step's arguments. -/
import Derived.Test.YteomllgkcolmhaaBbE
namespace Go.Proofs.Yteomllgkcolmhaa
open Go.RowKit

/-- Where the drawing of a state as a result stands. -/
structure Dv (w : World) (r C : Nat) (a : Option Addr) (c : Nat) (p : Int) (l : List Rg) (R f s t : Int) (W : World) : Prop where
  g : w.grownBy W none
  rd : RdOk W r
  res : Bx W w.heap.size 26 #[.int .i64 0, .slice none 0 0, .int .i64 0, .int .i64 0, .int .i64 0, .int .i64 0]
  b : Bx W C 26 (bbC p a l.length c R f s t)
  o : OwnRg W (r + 1) a c l
  ne : (Value.slice a l.length c).ownBlock = none ∨ (Value.slice a l.length c).ownBlock ≠ some C
  rr : w.heap.size < r
  rc : r < C

theorem Dv.step {w W W' : World} {r C : Nat} {a : Option Addr} {c : Nat} {p : Int} {l : List Rg} {R f s t : Int} (h : Dv w r C a c p l R f s t W) (hg : W.grownBy W' (some r)) (hd : RdOk W' r) : Dv w r C a c p l R f s t W' :=
  ⟨grownBy_new h.g hg (Nat.le_of_lt h.rr), hd, h.res.kept hg (by have := h.rr; simp; omega), h.b.kept hg (by have := h.rc; simp; omega), own_r h.o (by omega) hg, h.ne, h.rr, h.rc⟩

theorem Dv.keep {w W W' : World} {r C : Nat} {a : Option Addr} {c : Nat} {p : Int} {l : List Rg} {R f s t : Int} (h : Dv w r C a c p l R f s t W) (hg : W.grownBy W' none) : Dv w r C a c p l R f s t W' :=
  ⟨grownBy_trans h.g hg, rd_ext h.rd hg, h.res.keep hg, h.b.keep hg, own_kept h.o hg, h.ne, h.rr, h.rc⟩

theorem Dv.turn {w W : World} {r C : Nat} {a : Option Addr} {c : Nat} {p : Int} {l : List Rg} {R f s t : Int} (h : Dv w r C a c p l R f s t W) (y : Int) : Dv w r C a c p l R f s y (W.setCell ⟨C, 5, none⟩ (.int .i64 y)) :=
  have hg := grownBy_set W C 5 (.int .i64 y)
  ⟨gS h.g (by have := h.rr; have := h.rc; omega) 5 _, h.rd.kept hg (by have := h.rc; simp; omega) (by intro k e; have := h.rc; simp at e; omega), h.res.kept hg (by have := h.rr; have := h.rc; simp; omega), h.b.s 5 _, World.ownsRow.kept h.o hg h.ne, h.ne, h.rr, h.rc⟩

theorem dv_new {w W W1 : World} {r B : Nat} {a : Option Addr} {c : Nat} {p : Int} {l : List Rg} {R f s t : Int} (h0 : w.grownBy W none) (hres : Bx W w.heap.size 26 #[.int .i64 0, .slice none 0 0, .int .i64 0, .int .i64 0, .int .i64 0, .int .i64 0]) (hr : w.heap.size < r) (hg : W.grownBy W1 (some r)) (hd : RdOk W1 r) (ho : OwnRg W1 B a c l) (hB : r + 1 ≤ B) :
    Dv w r W1.heap.size a c p l R f s t (W1.alloc (.cells (bbC p a l.length c R f s t) 26)) :=
  have gX := World.grownBy_alloc W1 (.cells (bbC p a l.length c R f s t) 26) none
  ⟨grownBy_trans (grownBy_new h0 hg (Nat.le_of_lt hr)) gX, rd_ext hd gX, (hres.kept hg (by simp; omega)).keep gX, Bx.new _ _ _, own_kept (own_base ho hB) gX, own_ltX ho (Nat.le_refl _), hr, hd.lt⟩

def BoPost (w : World) (e : Ending) (w' : World) : Prop :=
  ∃ a c p l R f s t, e = .returned (bbV p a (List.length l) c R f s t) ∧ w.grownBy w' none ∧ OwnRg w' w.heap.size a c l ∧ l.length ≤ 12

theorem Dv.fin {w W : World} {r C : Nat} {a : Option Addr} {c : Nat} {p : Int} {l : List Rg} {R f s t : Int} (h : Dv w r C a c p l R f s t W) (hl : l.length ≤ 12) : BoPost w (.returned (bbV p a l.length c R f s t)) ((((((W.setCell ⟨w.heap.size, 0, none⟩ (.int .i64 p)).setCell ⟨w.heap.size, 1, none⟩ (.slice a l.length c)).setCell ⟨w.heap.size, 2, none⟩ (.int .i64 R)).setCell ⟨w.heap.size, 3, none⟩ (.int .i64 f)).setCell ⟨w.heap.size, 4, none⟩ (.int .i64 s)).setCell ⟨w.heap.size, 5, none⟩ (.int .i64 t)) :=
  have hg := gset6 W w.heap.size (.int .i64 p) (.slice a l.length c) (.int .i64 R) (.int .i64 f) (.int .i64 s) (.int .i64 t)
  ⟨a, c, p, l, R, f, s, t, rfl, gS (gS (gS (gS (gS (gS h.g (Nat.le_refl _) 0 _) (Nat.le_refl _) 1 _) (Nat.le_refl _) 2 _) (Nat.le_refl _) 3 _) (Nat.le_refl _) 4 _) (Nat.le_refl _) 5 _, own_base (World.ownsRow.kept h.o hg (own_geX h.o (by have := h.rr; omega))) (by have := h.rr; omega), hl⟩

set_option maxRecDepth 100000 in
set_option maxHeartbeats 1500000 in
theorem draw_bo (a : Option Addr) (n c : Nat) (w : World) (h : CodeIn w a n) : Calls Try.prog 9 #[.slice a n c] w (BoPost w) := by
  have hZ := Bx.new w 26 #[.int .i64 0, .slice none 0 0, .int .i64 0, .int .i64 0, .int .i64 0, .int .i64 0]
  have gZ := World.grownBy_alloc w (.cells #[.int .i64 0, .slice none 0 0, .int .i64 0, .int .i64 0, .int .i64 0, .int .i64 0] 26) none
  have H0 := Lib.hid (And.intro (h.kept gZ) (And.intro gZ hZ))
  clear h hZ gZ
  go_enter Try.func9, Try.ntmps9
  go_wp2_with fail
  generalize w.alloc (.cells #[.int .i64 0, .slice none 0 0, .int .i64 0, .int .i64 0, .int .i64 0, .int .i64 0] 26) = w0 at *
  refine (open_any _ _ _ _ H0.out.1).mono ?_
  rintro e w1 ⟨rfl, hg, hr⟩
  have hw0 : w.heap.size < w0.heap.size := H0.out.2.2.lt
  have H1 := Lib.hid (And.intro (grownBy_trans H0.out.2.1 hg) (And.intro hr (H0.out.2.2.keep hg)))
  clear hg hr H0
  generalize w0.heap.size = r at *
  go_wp2_with fail
  refine (bbr_draw _ _ H1.out.2.1).mono ?_
  rintro e w2 ⟨al, cl, p, l, R, f, s, t, rfl, hg, hr, ho, hl⟩
  have H2 := Lib.hid (dv_new (p := p) (R := R) (f := f) (s := s) (t := t) H1.out.1 H1.out.2.2 hw0 hg hr ho H1.out.2.1.lt)
  clear hg hr ho H1
  go_wp2_with fail
  generalize w2.alloc (.cells (bbC p al l.length cl R f s t) 26) = w3 at *
  generalize w2.heap.size = C at *
  refine (once_any _ _ _ H2.out.rd (by omega) (by omega)).mono ?_
  rintro e w4 ⟨o, rfl, hg, hr⟩
  have H4 := Lib.hid (H2.out.step hg hr)
  clear hg hr H2
  cases o
  · skip
    have b0 := (H4.out.b).c 0 rfl
    have b1 := (H4.out.b).c 1 rfl
    have b2 := (H4.out.b).c 2 rfl
    have b3 := (H4.out.b).c 3 rfl
    have b4 := (H4.out.b).c 4 rfl
    have b5 := (H4.out.b).c 5 rfl
    have z0 := (H4.out.res).c 0 rfl
    have z1 := (H4.out.res).c 1 rfl
    have z2 := (H4.out.res).c 2 rfl
    have z3 := (H4.out.res).c 3 rfl
    have z4 := (H4.out.res).c 4 rfl
    have z5 := (H4.out.res).c 5 rfl
    have zf0 := (H4.out.res).f 0
    have zf1 := (H4.out.res).f 1
    have zf2 := (H4.out.res).f 2
    have zf3 := (H4.out.res).f 3
    have zf4 := (H4.out.res).f 4
    have zf5 := (H4.out.res).f 5
    go_wp2_with fail
    exact bodyPost_ret (v := bbV p al l.length cl R f s t) (by simp [results, Try.results9, go_sem, z0, z1, z2, z3, z4, z5]) rfl (H4.out.fin hl)
  · go_wp2_with fail
    refine (off_w _ _ _ _ H4.out.rd ⟨by decide, by decide⟩ (wf_of (by decide) (by decide))).mono ?_
    rintro e w7 ⟨y, hy, rfl, hg, hr⟩
    have H7 := Lib.hid (H4.out.step hg hr)
    have H8 := Lib.hid (H7.out.turn y)
    clear hg hr hy H4
    have c5 := H7.out.b.c 5 rfl
    have cf := H7.out.b.f 5
    have b0 := (H8.out.b).c 0 rfl
    have b1 := (H8.out.b).c 1 rfl
    have b2 := (H8.out.b).c 2 rfl
    have b3 := (H8.out.b).c 3 rfl
    have b4 := (H8.out.b).c 4 rfl
    have b5 := (H8.out.b).c 5 rfl
    have z0 := (H8.out.res).c 0 rfl
    have z1 := (H8.out.res).c 1 rfl
    have z2 := (H8.out.res).c 2 rfl
    have z3 := (H8.out.res).c 3 rfl
    have z4 := (H8.out.res).c 4 rfl
    have z5 := (H8.out.res).c 5 rfl
    have zf0 := (H8.out.res).f 0
    have zf1 := (H8.out.res).f 1
    have zf2 := (H8.out.res).f 2
    have zf3 := (H8.out.res).f 3
    have zf4 := (H8.out.res).f 4
    have zf5 := (H8.out.res).f 5
    go_wp2_with fail
    exact bodyPost_ret (v := bbV p al l.length cl R f s y) (by simp [results, Try.results9, go_sem, z0, z1, z2, z3, z4, z5]) rfl (H8.out.fin hl)

set_option maxRecDepth 100000 in
set_option maxHeartbeats 1500000 in
theorem draw_bw (a : Option Addr) (n c : Nat) (w : World) (h : CodeIn w a n) : Calls Try.prog 10 #[.slice a n c] w (BoPost w) := by
  have hZ := Bx.new w 26 #[.int .i64 0, .slice none 0 0, .int .i64 0, .int .i64 0, .int .i64 0, .int .i64 0]
  have gZ := World.grownBy_alloc w (.cells #[.int .i64 0, .slice none 0 0, .int .i64 0, .int .i64 0, .int .i64 0, .int .i64 0] 26) none
  have H0 := Lib.hid (And.intro (h.kept gZ) (And.intro gZ hZ))
  clear h hZ gZ
  go_enter Try.func10, Try.ntmps10
  go_wp2_with fail
  generalize w.alloc (.cells #[.int .i64 0, .slice none 0 0, .int .i64 0, .int .i64 0, .int .i64 0, .int .i64 0] 26) = w0 at *
  have hw : w.heap.size < w0.heap.size := H0.out.2.2.lt
  refine (draw_bo _ _ _ _ H0.out.1).mono ?_
  rintro e w1 ⟨al, cl, p, l, R, f, s, t, rfl, hg, hr, hl⟩
  have H1 := Lib.hid (And.intro (grownBy_trans H0.out.2.1 hg) (And.intro hr (H0.out.2.2.keep hg)))
  clear hg hr
  have z0 := (H1.out.2.2).c 0 rfl
  have z1 := (H1.out.2.2).c 1 rfl
  have z2 := (H1.out.2.2).c 2 rfl
  have z3 := (H1.out.2.2).c 3 rfl
  have z4 := (H1.out.2.2).c 4 rfl
  have z5 := (H1.out.2.2).c 5 rfl
  have zf0 := (H1.out.2.2).f 0
  have zf1 := (H1.out.2.2).f 1
  have zf2 := (H1.out.2.2).f 2
  have zf3 := (H1.out.2.2).f 3
  have zf4 := (H1.out.2.2).f 4
  have zf5 := (H1.out.2.2).f 5
  go_wp2_with fail
  refine bodyPost_ret (v := bbV p al l.length cl R f s t) (by simp [results, Try.results10, go_sem, z0, z1, z2, z3, z4, z5]) rfl ⟨al, cl, p, l, R, f, s, t, rfl, ?_, ?_, hl⟩
  · exact gS (gS (gS (gS (gS (gS H1.out.1 (Nat.le_refl _) 0 _) (Nat.le_refl _) 1 _) (Nat.le_refl _) 2 _) (Nat.le_refl _) 3 _) (Nat.le_refl _) 4 _) (Nat.le_refl _) 5 _
  · exact own_base (World.ownsRow.kept H1.out.2.1 (gset6 _ _ _ _ _ _ _ _) (own_geX H1.out.2.1 hw)) (Nat.le_of_lt hw)

/-- .. with a sample beside it. -/
structure Du (w : World) (r C : Nat) (a : Option Addr) (c : Nat) (p : Int) (l : List Rg) (R f s t : Int) (X : Nat) (tx rx : Int) (W : World) : Prop where
  d : Dv w r C a c p l R f s t W
  res : Bx W (w.heap.size + 1) 28 #[.int .i64 0, .int .i64 0]
  x : Bx W X 28 #[.int .i64 tx, .int .i64 rx]
  cx : C < X
  r1 : w.heap.size + 1 < r

theorem Du.step {w W W' : World} {r C : Nat} {a : Option Addr} {c : Nat} {p : Int} {l : List Rg} {R f s t : Int} {X : Nat} {tx rx : Int} (h : Du w r C a c p l R f s t X tx rx W) (hg : W.grownBy W' (some r)) (hd : RdOk W' r) : Du w r C a c p l R f s t X tx rx W' :=
  ⟨h.d.step hg hd, h.res.kept hg (by have := h.r1; simp; omega), h.x.kept hg (by have := h.d.rc; have := h.cx; simp; omega), h.cx, h.r1⟩

theorem Du.keep {w W W' : World} {r C : Nat} {a : Option Addr} {c : Nat} {p : Int} {l : List Rg} {R f s t : Int} {X : Nat} {tx rx : Int} (h : Du w r C a c p l R f s t X tx rx W) (hg : W.grownBy W' none) : Du w r C a c p l R f s t X tx rx W' :=
  ⟨h.d.keep hg, h.res.keep hg, h.x.keep hg, h.cx, h.r1⟩

def DsPost (w : World) (e : Ending) (w' : World) : Prop :=
  ∃ a c p l R f s t, ∃ tx rx q fl : Int, e = .returned (.tuple #[bbV p a (List.length l) c R f s t, .agg #[.int .i64 tx, .int .i64 rx], .int .i64 q, .int .i64 fl]) ∧ w.grownBy w' none ∧ RgAt w' a l ∧ l.length ≤ 12

theorem Du.fin {w W : World} {r C : Nat} {a : Option Addr} {c : Nat} {p : Int} {l : List Rg} {R f s t : Int} {X : Nat} {tx rx : Int} (h : Du w r C a c p l R f s t X tx rx W) (hl : l.length ≤ 12) (q fl : Int) : DsPost w (.returned (.tuple #[bbV p a l.length c R f s t, .agg #[.int .i64 tx, .int .i64 rx], .int .i64 q, .int .i64 fl])) ((((((((W.setCell ⟨w.heap.size, 0, none⟩ (.int .i64 p)).setCell ⟨w.heap.size, 1, none⟩ (.slice a l.length c)).setCell ⟨w.heap.size, 2, none⟩ (.int .i64 R)).setCell ⟨w.heap.size, 3, none⟩ (.int .i64 f)).setCell ⟨w.heap.size, 4, none⟩ (.int .i64 s)).setCell ⟨w.heap.size, 5, none⟩ (.int .i64 t)).setCell ⟨w.heap.size + 1, 0, none⟩ (.int .i64 tx)).setCell ⟨w.heap.size + 1, 1, none⟩ (.int .i64 rx)) := by
  have hg := gset6 W w.heap.size (.int .i64 p) (.slice a l.length c) (.int .i64 R) (.int .i64 f) (.int .i64 s) (.int .i64 t)
  have ho := World.ownsRow.kept h.d.o hg (own_geX h.d.o (by have := h.d.rr; omega))
  have hgr : w.grownBy ((((((W.setCell ⟨w.heap.size, 0, none⟩ (.int .i64 p)).setCell ⟨w.heap.size, 1, none⟩ (.slice a l.length c)).setCell ⟨w.heap.size, 2, none⟩ (.int .i64 R)).setCell ⟨w.heap.size, 3, none⟩ (.int .i64 f)).setCell ⟨w.heap.size, 4, none⟩ (.int .i64 s)).setCell ⟨w.heap.size, 5, none⟩ (.int .i64 t)) none := gS (gS (gS (gS (gS (gS h.d.g (Nat.le_refl _) 0 _) (Nat.le_refl _) 1 _) (Nat.le_refl _) 2 _) (Nat.le_refl _) 3 _) (Nat.le_refl _) 4 _) (Nat.le_refl _) 5 _
  have hr1 := h.r1
  clear hg
  generalize ((((((W.setCell ⟨w.heap.size, 0, none⟩ (.int .i64 p)).setCell ⟨w.heap.size, 1, none⟩ (.slice a l.length c)).setCell ⟨w.heap.size, 2, none⟩ (.int .i64 R)).setCell ⟨w.heap.size, 3, none⟩ (.int .i64 f)).setCell ⟨w.heap.size, 4, none⟩ (.int .i64 s)).setCell ⟨w.heap.size, 5, none⟩ (.int .i64 t)) = V at *
  have hg2 := grownBy_trans (grownBy_set V (w.heap.size + 1) 0 (.int .i64 tx)) (grownBy_set _ (w.heap.size + 1) 1 (.int .i64 rx))
  exact ⟨a, c, p, l, R, f, s, t, tx, rx, q, fl, rfl, gS (gS hgr (by omega) 0 _) (by omega) 1 _, rg_own (World.ownsRow.kept ho hg2 (own_geX ho (by omega))), hl⟩

set_option maxRecDepth 100000 in
set_option maxHeartbeats 3000000 in
theorem draw_bs (a : Option Addr) (n c : Nat) (w : World) (h : CodeIn w a n) : Calls Try.prog 6 #[.slice a n c] w (DsPost w) := by
  have hZ := Bx.new w 26 #[.int .i64 0, .slice none 0 0, .int .i64 0, .int .i64 0, .int .i64 0, .int .i64 0]
  have gZ := World.grownBy_alloc w (.cells #[.int .i64 0, .slice none 0 0, .int .i64 0, .int .i64 0, .int .i64 0, .int .i64 0] 26) none
  have gY := World.grownBy_alloc (w.alloc (.cells #[.int .i64 0, .slice none 0 0, .int .i64 0, .int .i64 0, .int .i64 0, .int .i64 0] 26)) (.cells #[.int .i64 0, .int .i64 0] 28) none
  have hY := Bx.new (w.alloc (.cells #[.int .i64 0, .slice none 0 0, .int .i64 0, .int .i64 0, .int .i64 0, .int .i64 0] 26)) 28 #[.int .i64 0, .int .i64 0]
  rw [World.size_alloc] at hY
  have H0 := Lib.hid (And.intro (h.kept (grownBy_trans gZ gY)) (And.intro (grownBy_trans gZ gY) (And.intro (hZ.keep gY) hY)))
  clear h hZ gZ gY hY
  go_enter Try.func6, Try.ntmps6
  go_wp2_with fail
  generalize (w.alloc (.cells #[.int .i64 0, .slice none 0 0, .int .i64 0, .int .i64 0, .int .i64 0, .int .i64 0] 26)).alloc (.cells #[.int .i64 0, .int .i64 0] 28) = w0 at *
  refine (open_any _ _ _ _ H0.out.1).mono ?_
  rintro e w1 ⟨rfl, hg, hr⟩
  have hw0 : w.heap.size + 1 < w0.heap.size := H0.out.2.2.2.lt
  have H1 := Lib.hid (And.intro (grownBy_trans H0.out.2.1 hg) (And.intro hr (And.intro (H0.out.2.2.1.keep hg) (H0.out.2.2.2.keep hg))))
  clear hg hr H0
  generalize w0.heap.size = r at *
  go_wp2_with fail
  refine (bbr_draw _ _ H1.out.2.1).mono ?_
  rintro e w2 ⟨al, cl, p, l, R, f, s, t, rfl, hg, hr, ho, hl⟩
  have gX := World.grownBy_alloc w2 (.cells (bbC p al l.length cl R f s t) 26) none
  have H2 := Lib.hid (And.intro (dv_new (p := p) (R := R) (f := f) (s := s) (t := t) H1.out.1 H1.out.2.2.1 (by omega) hg hr ho H1.out.2.1.lt) ((H1.out.2.2.2.kept hg (by simp; omega)).keep gX))
  clear hg hr ho gX H1
  have b1 := H2.out.1.b.c 1 rfl
  go_wp2_with fail
  generalize w2.alloc (.cells (bbC p al l.length cl R f s t) 26) = w3 at *
  generalize w2.heap.size = C at *
  refine (sample_draw _ _ _ _ _ _ H2.out.1.rd H2.out.1.o (by omega) (by omega)).mono ?_
  rintro e w5 ⟨tx, q, rfl, hg, hr⟩
  have H5 := Lib.hid (And.intro (H2.out.1.step hg hr) (H2.out.2.kept hg (by simp; omega)))
  clear hg hr b1 H2
  obtain ⟨rx, hrx⟩ : ∃ rx, IntKind.i64.wrap (1000 * q) = rx := ⟨_, rfl⟩
  have hxx := (Bx.new w5 28 #[.int .i64 tx, .int .i64 q]).c 1 rfl
  have hxf := (Bx.new w5 28 #[.int .i64 tx, .int .i64 q]).f 1
  go_wp2_with fail
  clear hxx hxf hrx
  have gX := World.grownBy_alloc w5 (.cells #[.int .i64 tx, .int .i64 rx] 28) none
  have HD := Lib.hid (show Du w r C al cl p l R f s t w5.heap.size tx rx (w5.alloc (.cells #[.int .i64 tx, .int .i64 rx] 28)) from ⟨H5.out.1.keep gX, H5.out.2.keep gX, Bx.new _ _ _, H5.out.1.b.lt, hw0⟩)
  clear gX H5
  generalize w5.alloc (.cells #[.int .i64 tx, .int .i64 rx] 28) = wb at *
  generalize w5.heap.size = X at *
  refine (off_w _ _ _ _ HD.out.d.rd ⟨by decide, by decide⟩ (wf_of (by decide) (by decide))).mono ?_
  rintro e w7 ⟨y, hy, rfl, hg, hr⟩
  have H7 := Lib.hid (HD.out.step hg hr)
  clear hg hr hy HD
  have b0 := (H7.out.d.b).c 0 rfl
  have b1 := (H7.out.d.b).c 1 rfl
  have b2 := (H7.out.d.b).c 2 rfl
  have b3 := (H7.out.d.b).c 3 rfl
  have b4 := (H7.out.d.b).c 4 rfl
  have b5 := (H7.out.d.b).c 5 rfl
  have z0 := (H7.out.d.res).c 0 rfl
  have z1 := (H7.out.d.res).c 1 rfl
  have z2 := (H7.out.d.res).c 2 rfl
  have z3 := (H7.out.d.res).c 3 rfl
  have z4 := (H7.out.d.res).c 4 rfl
  have z5 := (H7.out.d.res).c 5 rfl
  have zf0 := (H7.out.d.res).f 0
  have zf1 := (H7.out.d.res).f 1
  have zf2 := (H7.out.d.res).f 2
  have zf3 := (H7.out.d.res).f 3
  have zf4 := (H7.out.d.res).f 4
  have zf5 := (H7.out.d.res).f 5
  have x0 := (H7.out.x).c 0 rfl
  have x1 := (H7.out.x).c 1 rfl
  have u0 := (H7.out.res).c 0 rfl
  have u1 := (H7.out.res).c 1 rfl
  have uf0 := (H7.out.res).f 0
  have uf1 := (H7.out.res).f 1
  go_wp2_with fail
  refine wp_region_held_drew (S := fun w' => w'.cell? ⟨C, 0, none⟩ = some (.int .i64 p) ∧ w'.cell? ⟨C, 1, none⟩ = some (.slice al l.length cl) ∧ w'.cell? ⟨C, 2, none⟩ = some (.int .i64 R) ∧ w'.cell? ⟨C, 3, none⟩ = some (.int .i64 f) ∧ w'.cell? ⟨C, 4, none⟩ = some (.int .i64 s) ∧ w'.cell? ⟨C, 5, none⟩ = some (.int .i64 t) ∧ w'.cell? ⟨X, 0, none⟩ = some (.int .i64 tx) ∧ w'.cell? ⟨X, 1, none⟩ = some (.int .i64 rx) ∧ True) (by kernel_rfl) (by have hF := (H7.out.keep grownBy_drew); exact ⟨(hF.d.b).c 0 rfl, (hF.d.b).c 1 rfl, (hF.d.b).c 2 rfl, (hF.d.b).c 3 rfl, (hF.d.b).c 4 rfl, (hF.d.b).c 5 rfl, (hF.x).c 0 rfl, (hF.x).c 1 rfl, True.intro⟩) (fun hS => ?_)
  refine wpAnyH_take (i := 0) (v := ?_) rfl (by kernel_rfl) (by kernel_rfl) (by kernel_rfl) (fun _ _ _ h => h) (Or.inl ⟨by kernel_rfl, ?_⟩) hS ?_
  rotate_left
  · intro w' hSw
    obtain ⟨g0, g1, g2, g3, g4, g5, g6, g7, _⟩ := hSw
    first | (go_simp; done) | (go_simp; with_reducible rfl)
  simp only [List.getElem_toArray, List.getElem_cons_zero, Act.put, List.setIfInBounds_toArray, List.set_cons_zero, List.set_cons_succ]
  refine wpAnyH_take (i := 1) (v := ?_) rfl (by kernel_rfl) (by kernel_rfl) (by kernel_rfl) (fun _ _ _ h => h) (Or.inl ⟨by kernel_rfl, ?_⟩) hS ?_
  rotate_left
  · intro w' hSw
    obtain ⟨g0, g1, g2, g3, g4, g5, g6, g7, _⟩ := hSw
    first | (go_simp; done) | (go_simp; with_reducible rfl)
  simp only [List.getElem_toArray, List.getElem_cons_zero, List.getElem_cons_succ, Act.put, List.setIfInBounds_toArray, List.set_cons_zero, List.set_cons_succ]
  refine wpAnyH_take (i := 2) (v := ?_) rfl (by kernel_rfl) (by kernel_rfl) (by kernel_rfl) (fun _ _ _ h => h) (Or.inl ⟨by kernel_rfl, ?_⟩) hS ?_
  rotate_left
  · intro w' hSw
    obtain ⟨g0, g1, g2, g3, g4, g5, g6, g7, _⟩ := hSw
    first | (go_simp; done) | (go_simp; with_reducible rfl)
  simp only [List.getElem_toArray, List.getElem_cons_zero, List.getElem_cons_succ, Act.put, List.setIfInBounds_toArray, List.set_cons_zero, List.set_cons_succ]
  refine wpAnyH_take (i := 3) (v := ?_) rfl (by kernel_rfl) (by kernel_rfl) (by kernel_rfl) (fun _ _ _ h => h) (Or.inl ⟨by kernel_rfl, ?_⟩) hS ?_
  rotate_left
  · intro w' hSw
    obtain ⟨g0, g1, g2, g3, g4, g5, g6, g7, _⟩ := hSw
    first | (go_simp; done) | (go_simp; with_reducible rfl)
  simp only [List.getElem_toArray, List.getElem_cons_zero, List.getElem_cons_succ, Act.put, List.setIfInBounds_toArray, List.set_cons_zero, List.set_cons_succ]
  refine wpAnyH_ready (rs := [4]) (by kernel_rfl) (List.cons_ne_nil _ _) ?_
  refine AllReadyH.cons rfl (fun K hK => ?_) AllReadyH.nil
  go_simp
  go_at_call 20
  refine (off_w _ _ _ _ (H7.out.keep grownBy_drew).d.rd ⟨by decide, by decide⟩ (wf_of (by decide) (by decide))).mono ?_
  rintro e w8 ⟨d, hd, rfl, hg, hr⟩
  have H8 := Lib.hid ((H7.out.keep grownBy_drew).step hg hr)
  have HN := Lib.hid (show w.heap.size ≠ C ∧ w.heap.size ≠ X ∧ w.heap.size + 1 ≠ C ∧ w.heap.size + 1 ≠ X by have := H8.out.d.rc; have := H8.out.cx; have := H8.out.r1; omega)
  refine hK.out _ _ ⟨(H8.out.d.b).c 0 rfl, (H8.out.d.b).c 1 rfl, (H8.out.d.b).c 2 rfl, (H8.out.d.b).c 3 rfl, (H8.out.d.b).c 4 rfl, (H8.out.d.b).c 5 rfl, (H8.out.x).c 0 rfl, (H8.out.x).c 1 rfl, True.intro⟩ (fun hS => ?_)
  clear hg hr hd
  clear hK
  try simp only [List.getElem_toArray, List.getElem_cons_zero, List.getElem_cons_succ, Act.put, List.setIfInBounds_toArray, List.set_cons_zero, List.set_cons_succ]
  refine wpAnyH_ready (rs := [5]) (by kernel_rfl) (List.cons_ne_nil _ _) ?_
  refine AllReadyH.cons rfl (fun K hK => ?_) AllReadyH.nil
  have z0 := (H8.out.d.res).c 0 rfl
  have z1 := (H8.out.d.res).c 1 rfl
  have z2 := (H8.out.d.res).c 2 rfl
  have z3 := (H8.out.d.res).c 3 rfl
  have z4 := (H8.out.d.res).c 4 rfl
  have z5 := (H8.out.d.res).c 5 rfl
  have zf0 := (H8.out.d.res).f 0
  have zf1 := (H8.out.d.res).f 1
  have zf2 := (H8.out.d.res).f 2
  have zf3 := (H8.out.d.res).f 3
  have zf4 := (H8.out.d.res).f 4
  have zf5 := (H8.out.d.res).f 5
  go_simp
  have hG := gset6 w8 w.heap.size (.int .i64 p) (.slice al l.length cl) (.int .i64 R) (.int .i64 f) (.int .i64 s) (.int .i64 t)
  refine hK.out _ _ ⟨(H8.out.d.b.kept hG (by have := HN.out.1; simp; omega)).c 0 rfl, (H8.out.d.b.kept hG (by have := HN.out.1; simp; omega)).c 1 rfl, (H8.out.d.b.kept hG (by have := HN.out.1; simp; omega)).c 2 rfl, (H8.out.d.b.kept hG (by have := HN.out.1; simp; omega)).c 3 rfl, (H8.out.d.b.kept hG (by have := HN.out.1; simp; omega)).c 4 rfl, (H8.out.d.b.kept hG (by have := HN.out.1; simp; omega)).c 5 rfl, (H8.out.x.kept hG (by have := HN.out.2.1; simp; omega)).c 0 rfl, (H8.out.x.kept hG (by have := HN.out.2.1; simp; omega)).c 1 rfl, True.intro⟩ (fun hS => ?_)
  clear hG z0 zf0 z1 zf1 z2 zf2 z3 zf3 z4 zf4 z5 zf5
  clear hK
  try simp only [List.getElem_toArray, List.getElem_cons_zero, List.getElem_cons_succ, Act.put, List.setIfInBounds_toArray, List.set_cons_zero, List.set_cons_succ]
  refine wpAnyH_ready (rs := [6]) (by kernel_rfl) (List.cons_ne_nil _ _) ?_
  refine AllReadyH.cons rfl (fun K hK => ?_) AllReadyH.nil
  have hG := gset6 w8 w.heap.size (.int .i64 p) (.slice al l.length cl) (.int .i64 R) (.int .i64 f) (.int .i64 s) (.int .i64 t)
  have u0 := (H8.out.res.kept hG (by simp)).c 0 rfl
  have u1 := (H8.out.res.kept hG (by simp)).c 1 rfl
  have uf0 := (H8.out.res.kept hG (by simp)).f 0
  have uf1 := (H8.out.res.kept hG (by simp)).f 1
  go_simp
  have hG2 := grownBy_trans hG (grownBy_trans (gE (r := w.heap.size) (World.grownBy.refl _ none)) (World.grownBy.refl _ _))
  have hB := H8.out.d.b.kept hG (by have := HN.out.1; simp; omega)
  have hX := H8.out.x.kept hG (by have := HN.out.2.1; simp; omega)
  skip
  refine hK.out _ _ ?_ (fun hS => ?_)
  · have hB2 := Bx.other (Bx.other hB (B' := w.heap.size + 1) (by have := HN.out.2.2.1; omega) 0 (.int .i64 tx)) (B' := w.heap.size + 1) (by have := HN.out.2.2.1; omega) 1 (.int .i64 rx)
    have hX2 := Bx.other (Bx.other hX (B' := w.heap.size + 1) (by have := HN.out.2.2.2; omega) 0 (.int .i64 tx)) (B' := w.heap.size + 1) (by have := HN.out.2.2.2; omega) 1 (.int .i64 rx)
    exact ⟨(hB2).c 0 rfl, (hB2).c 1 rfl, (hB2).c 2 rfl, (hB2).c 3 rfl, (hB2).c 4 rfl, (hB2).c 5 rfl, (hX2).c 0 rfl, (hX2).c 1 rfl, True.intro⟩
  clear hG hG2 hB hX
  clear hK
  try simp only [List.getElem_toArray, List.getElem_cons_zero, List.getElem_cons_succ, Act.put, List.setIfInBounds_toArray, List.set_cons_zero, List.set_cons_succ]
  refine wpAnyH_take (i := 7) (v := ?_) rfl (by kernel_rfl) (by kernel_rfl) (by kernel_rfl) (fun _ _ _ h => h) (Or.inl ⟨by kernel_rfl, ?_⟩) hS ?_
  rotate_left
  · intro w' hSw
    obtain ⟨g0, g1, g2, g3, g4, g5, g6, g7, _⟩ := hSw
    first | (go_simp; done) | (go_simp; with_reducible rfl)
  simp only [List.getElem_toArray, List.getElem_cons_zero, List.getElem_cons_succ, Act.put, List.setIfInBounds_toArray, List.set_cons_zero, List.set_cons_succ]
  refine wpAnyH_take (i := 8) (v := ?_) rfl (by kernel_rfl) (by kernel_rfl) (by kernel_rfl) (fun _ _ _ h => h) (Or.inl ⟨by kernel_rfl, ?_⟩) hS ?_
  rotate_left
  · intro w' hSw
    obtain ⟨g0, g1, g2, g3, g4, g5, g6, g7, _⟩ := hSw
    first | (go_simp; done) | (go_simp; with_reducible rfl)
  simp only [List.getElem_toArray, List.getElem_cons_zero, List.getElem_cons_succ, Act.put, List.setIfInBounds_toArray, List.set_cons_zero, List.set_cons_succ]
  refine wpAnyH_done (by kernel_rfl) ?_ _
  have z0 := (H8.out.d.res).c 0 rfl
  have z1 := (H8.out.d.res).c 1 rfl
  have z2 := (H8.out.d.res).c 2 rfl
  have z3 := (H8.out.d.res).c 3 rfl
  have z4 := (H8.out.d.res).c 4 rfl
  have z5 := (H8.out.d.res).c 5 rfl
  go_wp2_with fail
  exact bodyPost_ret (v := .tuple #[bbV p al l.length cl R f s t, .agg #[.int .i64 tx, .int .i64 rx], .int .i64 y, .int .i64 d]) (by simp [results, Try.results6, go_sem, z0, z1, z2, z3, z4, z5, H8.out.res.c 0 rfl, H8.out.res.c 1 rfl]) rfl (H8.out.fin hl y d)

end Go.Proofs.Yteomllgkcolmhaa
