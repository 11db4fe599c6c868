/- Blocks of one's own, of any number of cells. -/
import Derived.Test.YtaigdimicnlfdaaFrG
import Derived.Lib.Hide
import Derived.RangeFuncBox
namespace Go.Proofs.Ytaigdimicnlfdaa
open Go.RowKit

theorem gA {w W : World} (h : w.grownBy W none) (o : Obj) : w.grownBy (W.alloc o) none := grownBy_trans h (World.grownBy_alloc _ _ _)
theorem gD {w W : World} (h : w.grownBy W none) (k : Nat) : w.grownBy (W.drewN k) none := grownBy_trans h (grownBy_drewN k)
theorem gd {w W : World} (h : w.grownBy W none) : w.grownBy W.drew none := grownBy_trans h ⟨rfl, rfl, rfl, Nat.le_refl _, fun _ _ _ => rfl⟩
theorem gS {w W : World} (h : w.grownBy W none) {b : Nat} (hb : w.heap.size ≤ b) (i : Nat) (v : Value) : w.grownBy (W.setCell ⟨b, i, none⟩ v) none :=
  ⟨h.os, h.tape, h.output, by simp [World.setCell]; exact h.size, fun k hk hne => (Below.heap_setCell _ _ _ k (by simp; omega)).trans (h.block k hk hne)⟩
theorem gE {w W : World} {r : Nat} (h : w.grownBy W none) : w.grownBy W (some r) := ⟨h.os, h.tape, h.output, h.size, fun k hk _ => h.block k hk (by simp)⟩
theorem gSr {w W : World} {r : Nat} (h : w.grownBy W (some r)) {b : Nat} (hb : w.heap.size ≤ b) (i : Nat) (v : Value) : w.grownBy (W.setCell ⟨b, i, none⟩ v) (some r) :=
  ⟨h.os, h.tape, h.output, by simp [World.setCell]; exact h.size, fun k hk hne => (Below.heap_setCell _ _ _ k (by simp; omega)).trans (h.block k hk hne)⟩
theorem grown_frz {a b : World} {row : Option Nat} (hg : a.grownBy b row) {p : Addr} {v : Value} (h : a.cell? p = some v) (hne : some p.block ≠ row) {x : Bool} (hf : a.frozen? p = x) : b.frozen? p = x := by
  rw [World.frozen?_of_block (hg.block p.block (World.block_lt_of_cell? a p h) hne)]
  exact hf

/-- A block that holds just these cells, in no use as a row. -/
def Bx (W : World) (B : Nat) (t : TypeId) (xs : Array Value) : Prop := W.heap[B]? = some (.cells xs t (0, 0))
theorem Bx.lt {W : World} {B : Nat} {t : TypeId} {xs : Array Value} (h : Bx W B t xs) : B < W.heap.size := (Array.getElem?_eq_some_iff.1 h).1
theorem Bx.c {W : World} {B : Nat} {t : TypeId} {xs : Array Value} (h : Bx W B t xs) (i : Nat) {x : Value} (hx : xs[i]? = some x) : W.cell? ⟨B, i, none⟩ = some x := by simp [World.cell?, show W.heap[B]? = _ from h, hx]
theorem Bx.f {W : World} {B : Nat} {t : TypeId} {xs : Array Value} (h : Bx W B t xs) (i : Nat) : W.frozen? ⟨B, i, none⟩ = false := by simp [World.frozen?, show W.heap[B]? = _ from h]
theorem Bx.new (W : World) (t : TypeId) (xs : Array Value) : Bx (W.alloc (.cells xs t)) W.heap.size t xs := World.alloc_heap_new W _
theorem Bx.kept {W W' : World} {row : Option Nat} {B : Nat} {t : TypeId} {xs : Array Value} (h : Bx W B t xs) (hg : W.grownBy W' row) (hne : some B ≠ row) : Bx W' B t xs := (hg.block B h.lt hne).trans h
theorem Bx.keep {W W' : World} {B : Nat} {t : TypeId} {xs : Array Value} (h : Bx W B t xs) (hg : W.grownBy W' none) : Bx W' B t xs := h.kept hg (by simp)
theorem Bx.alloc {W : World} {B : Nat} {t : TypeId} {xs : Array Value} (h : Bx W B t xs) (o : Obj) : Bx (W.alloc o) B t xs := h.keep (World.grownBy_alloc W o none)
theorem Bx.drew {W : World} {B : Nat} {t : TypeId} {xs : Array Value} (h : Bx W B t xs) (k : Nat) : Bx (W.drewN k) B t xs := h.keep (grownBy_drewN k)
theorem Bx.s {W : World} {B : Nat} {t : TypeId} {xs : Array Value} (h : Bx W B t xs) (i : Nat) (y : Value) : Bx (W.setCell ⟨B, i, none⟩ y) B t (xs.setIfInBounds i y) := by
  obtain ⟨hlt, hk⟩ := Array.getElem?_eq_some_iff.1 h
  show (W.heap.modify B _)[B]? = _
  rw [Array.getElem?_eq_getElem (by rw [Array.size_modify]; exact hlt), Array.getElem_modify_self, hk]
  rfl
theorem Bx.other {W : World} {B : Nat} {t : TypeId} {xs : Array Value} (h : Bx W B t xs) {B' : Nat} (hne : B ≠ B') (i : Nat) (u : Value) : Bx (W.setCell ⟨B', i, none⟩ u) B t xs := (Below.heap_setCell _ _ _ B hne).trans h

/-- Where the drawing of one fragment stands: the reader, the result's block, its own block. -/
structure Fk (w : World) (r X : Nat) (f : Int) (m : Bool) (d : List UInt8) (W : World) : Prop where
  g : w.grownBy W none
  rd : RdOk W r
  res : Bx W w.heap.size 30 #[.int .i64 0, .bool false, .string ⟨#[]⟩]
  box : Bx W X 30 #[.int .i64 f, .bool m, .string ⟨d.toArray⟩]
  o : w.heap.size < r ∧ r < X
  d : d.length ≤ 1000

theorem Fk.step {w W W2 : World} {r X : Nat} {f : Int} {m : Bool} {d : List UInt8} (h : Fk w r X f m d W) (hg : W.grownBy W2 (some r)) (hr : RdOk W2 r) : Fk w r X f m d W2 :=
  ⟨grownBy_new h.g hg (Nat.le_of_lt h.o.1), hr, h.res.kept hg (by have := h.o.1; simp; omega), h.box.kept hg (by have := h.o.2; simp; omega), h.o, h.d⟩

theorem sets3 {W : World} {B : Nat} {t : TypeId} {x0 x1 x2 : Value} (h : Bx W B t #[x0, x1, x2]) (v0 v1 v2 : Value) : Bx (((W.setCell ⟨B, 0, none⟩ v0).setCell ⟨B, 1, none⟩ v1).setCell ⟨B, 2, none⟩ v2) B t #[v0, v1, v2] := ((h.s 0 v0).s 1 v1).s 2 v2

theorem Fk.put {w W : World} {r X : Nat} {f g : Int} {m k : Bool} {d c : List UInt8} (h : Fk w r X f m d W) (hc : c.length ≤ 1000) : Fk w r X g k c (((W.setCell ⟨X, 0, none⟩ (.int .i64 g)).setCell ⟨X, 1, none⟩ (.bool k)).setCell ⟨X, 2, none⟩ (.string ⟨c.toArray⟩)) := by
  obtain ⟨o1, o2⟩ := h.o
  have hg : W.grownBy (((W.setCell ⟨X, 0, none⟩ (.int .i64 g)).setCell ⟨X, 1, none⟩ (.bool k)).setCell ⟨X, 2, none⟩ (.string ⟨c.toArray⟩)) (some X) :=
    ⟨rfl, rfl, rfl, by simp [World.setCell], fun k hk hne => (Below.heap_setCell _ _ _ k (by simp; intro e; exact hne (by rw [e]))).trans ((Below.heap_setCell _ _ _ k (by simp; intro e; exact hne (by rw [e]))).trans (Below.heap_setCell _ _ _ k (by simp; intro e; exact hne (by rw [e]))))⟩
  exact ⟨gS (gS (gS h.g (by omega) _ _) (by omega) _ _) (by omega) _ _, h.rd.kept hg (by simp; omega) (by intro k e; simp at e; omega), ((h.res.other (by omega) _ _).other (by omega) _ _).other (by omega) _ _, sets3 h.box _ _ _, ⟨o1, o2⟩, hc⟩

def FkPost (w : World) (e : Ending) (w' : World) : Prop := ∃ (f : Int) (m : Bool) (d : List UInt8), d.length ≤ 1000 ∧ e = .returned (.agg #[.int .i64 f, .bool m, .string ⟨d.toArray⟩]) ∧ w.grownBy w' none

theorem Fk.fin {w W : World} {r X : Nat} {f : Int} {m : Bool} {d : List UInt8} (h : Fk w r X f m d W) : w.grownBy (((W.setCell ⟨w.heap.size, 0, none⟩ (.int .i64 f)).setCell ⟨w.heap.size, 1, none⟩ (.bool m)).setCell ⟨w.heap.size, 2, none⟩ (.string ⟨d.toArray⟩)) none := gS (gS (gS h.g (Nat.le_refl _) _ _) (Nat.le_refl _) _ _) (Nat.le_refl _) _ _

set_option maxRecDepth 100000 in
set_option maxHeartbeats 1500000 in
theorem draw_fk (a : Option Addr) (n c : Nat) (w : World) (h : CodeIn w a n) : Calls Try.prog 9 #[.slice a n c] w (FkPost w) := by
  have H := Lib.hid (And.intro (h.kept (World.grownBy_alloc w (.cells #[.int .i64 0, .bool false, .string ⟨#[]⟩] 30) none)) (And.intro (World.grownBy_alloc w (.cells #[.int .i64 0, .bool false, .string ⟨#[]⟩] 30) none) (Bx.new w 30 #[.int .i64 0, .bool false, .string ⟨#[]⟩])))
  clear h
  go_enter Try.func9, Try.ntmps9
  go_wp2_with fail
  refine (open_any _ _ _ _ H.out.1).mono ?_
  rintro e w1 ⟨rfl, hg, hr⟩
  have hlt0 := H.out.2.2.lt
  have H1 := Lib.hid (And.intro (grownBy_trans H.out.2.1 hg) (And.intro (H.out.2.2.keep hg) hr))
  clear hg hr H
  generalize (w.alloc (.cells #[.int .i64 0, .bool false, .string ⟨#[]⟩] 30)).heap.size = r at *
  go_wp2_with fail
  refine (frags_draw _ _ H1.out.2.2).mono ?_
  rintro e w2 ⟨al, cl, l, rfl, hg, hr, hf, hl, hd⟩
  have hrl := hr.lt
  have hA := World.grownBy_alloc w2 (.cells #[.int .i64 1, .bool false, .string ⟨#[97]⟩] 30) none
  have H2 := Lib.hid (And.intro (show Fk w r w2.heap.size 1 false [97] (w2.alloc (.cells #[.int .i64 1, .bool false, .string ⟨#[97]⟩] 30)) from ⟨gA (grownBy_new H1.out.1 hg (Nat.le_of_lt hlt0)) _, rd_none hr hA, (H1.out.2.1.kept hg (by simp; omega)).alloc _, Bx.new _ _ _, ⟨hlt0, hrl⟩, by decide⟩) (And.intro (hf.kept hA) hd))
  clear hg hr hf hd hA H1
  go_upto_if 13 with fail
  generalize w2.alloc (.cells #[.int .i64 1, .bool false, .string ⟨#[97]⟩] 30) = w3 at *
  generalize w2.heap.size = X at *
  go_cut [] (fun wx => ∃ (f : Int) (m : Bool) (d : List UInt8), Fk w r X f m d wx)
  case first =>
    by_cases h0 : 0 < l.length
    · obtain ⟨b, off, rfl, c0, c1, c2⟩ := fg_cells H2.out.2.1 h0
      have HP := Lib.hid (Fk.put (g := (l[0]).f) (k := (l[0]).m) H2.out.1 (H2.out.2.2 l[0] (List.getElem_mem h0)))
      simp only [Nat.zero_mul, Nat.add_zero] at c0 c1 c2
      generalize l[0] = x at *
      have h0' : (0 : Int) < (l.length : Int) := by omega
      have x0 := H2.out.1.box.c 0 rfl
      have x1 := H2.out.1.box.c 1 rfl
      have x2 := H2.out.1.box.c 2 rfl
      have f0 := H2.out.1.box.f 0
      have f1 := H2.out.1.box.f 1
      have f2 := H2.out.1.box.f 2
      go_wp2_with fail
      go_meet
      exact ⟨x.f, x.m, x.d, HP.out⟩
    · have h0' : ¬ (0 : Int) < (l.length : Int) := by omega
      go_wp2_with fail
      go_meet
      exact ⟨1, false, [97], H2.out.1⟩
  case rest =>
    obtain ⟨f, m, d, hk⟩ := hcut
    have H3 := Lib.hid hk
    clear hk H2 hl
    go_wp2_with fail
    refine (once_any _ _ _ H3.out.rd (by omega) (by omega)).mono ?_
    rintro e w4 ⟨b, rfl, hg, hr⟩
    have H4 := Lib.hid (H3.out.step hg hr)
    clear hg hr H3
    cases b
    · have x0 := H4.out.box.c 0 rfl
      have x1 := H4.out.box.c 1 rfl
      have x2 := H4.out.box.c 2 rfl
      have y0 := H4.out.res.c 0 rfl
      have y1 := H4.out.res.c 1 rfl
      have y2 := H4.out.res.c 2 rfl
      have f0 := H4.out.res.f 0
      have f1 := H4.out.res.f 1
      have f2 := H4.out.res.f 2
      have lr := H4.out.res.lt
      have HF := Lib.hid H4.out.fin
      go_wp2_with fail
      exact bodyPost_ret (v := .agg #[.int .i64 f, .bool m, .string ⟨d.toArray⟩]) (by simp [results, Try.results9, go_sem, y0, y1, y2]) rfl ⟨f, m, d, H4.out.d, rfl, HF.out⟩
    · go_wp2_with fail
      refine (bytes_any _ 9 _ H4.out.rd (by omega)).mono ?_
      rintro e w5 ⟨d2, hd2, rfl, hg, hr⟩
      have H5 := Lib.hid (H4.out.step hg hr)
      clear hg hr H4
      have e2 : w5.grownBy (w5.setCell ⟨X, 2, none⟩ (.string ⟨d2.toArray⟩)) (some X) := ⟨rfl, rfl, rfl, by simp [World.setCell], fun k hk hne => Below.heap_setCell _ _ _ k (by simp; intro e; exact hne (by rw [e]))⟩
      have o1 := H5.out.o
      have H6 := Lib.hid (show Fk w r X f m d2 (w5.setCell ⟨X, 2, none⟩ (.string ⟨d2.toArray⟩)) from ⟨gS H5.out.g (by omega) _ _, H5.out.rd.kept e2 (by simp; omega) (by intro k e; simp at e; omega), H5.out.res.other (by omega) _ _, H5.out.box.s 2 _, o1, by omega⟩)
      have x2 := H5.out.box.c 2 rfl
      have f2 := H5.out.box.f 2
      go_upto_region 8 with fail
      clear x2 f2 e2 o1 H5
      generalize w5.setCell ⟨X, 2, none⟩ (.string ⟨d2.toArray⟩) = w6 at *
      have x0 := H6.out.box.c 0 rfl
      have x1 := H6.out.box.c 1 rfl
      have x2 := H6.out.box.c 2 rfl
      have y0 := H6.out.res.c 0 rfl
      have y1 := H6.out.res.c 1 rfl
      have y2 := H6.out.res.c 2 rfl
      have f0 := H6.out.res.f 0
      have f1 := H6.out.res.f 1
      have f2 := H6.out.res.f 2
      have lr := H6.out.res.lt
      have HF := Lib.hid H6.out.fin
      go_wp2_with fail
      exact bodyPost_ret (v := .agg #[.int .i64 f, .bool m, .string ⟨d2.toArray⟩]) (by simp [results, Try.results9, go_sem, y0, y1, y2]) rfl ⟨f, m, d2, H6.out.d, rfl, HF.out⟩

end Go.Proofs.Ytaigdimicnlfdaa
