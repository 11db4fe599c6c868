/- The drawing of two addresses and a segment. -/
import Derived.Test.YthfhffcimjolgaaTcD
namespace Go.Proofs.Ythfhffcimjolgaa
open Go.RowKit

structure TD (w : World) (B : Nat) (f o s k g n : Int) (a : Option Addr) (c : Nat) (l : List Rg) (d : List UInt8) (W : World) : Prop where
  gw : w.grownBy W none
  rd : RdOk W (w.heap.size + 1)
  res : Bx W w.heap.size 26 #[.int .i64 0, .int .i64 0, .int .i64 0, .int .i64 0, .int .i64 0, .int .i64 0, .slice none 0 0, .string ⟨#[]⟩]
  box : Bx W B 26 #[.int .i64 f, .int .i64 o, .int .i64 s, .int .i64 k, .int .i64 g, .int .i64 n, .slice a l.length c, .string ⟨d.toArray⟩]
  row : W.ownsRow (w.heap.size + 2) 61 2 (.slice a l.length c) l.length (rgsV l)
  lt : w.heap.size + 1 < B
theorem TD.move {w W W2 : World} {B : Nat} {f o s k g n : Int} {a : Option Addr} {c : Nat} {l : List Rg} {d : List UInt8} (h : TD w B f o s k g n a c l d W) (hg : W.grownBy W2 (some (w.heap.size + 1))) (hr : RdOk W2 (w.heap.size + 1)) : TD w B f o s k g n a c l d W2 := by
  have h2 := h.lt
  exact ⟨t_new h.gw hg (by omega), hr, h.res.kept hg (by simp), h.box.kept hg (by simp; omega), t_far h.row hg (fun q hq => by have := (h.row.lt q hq).1; simp; omega), h.lt⟩
theorem TD.keep {w W W2 : World} {B : Nat} {f o s k g n : Int} {a : Option Addr} {c : Nat} {l : List Rg} {d : List UInt8} (h : TD w B f o s k g n a c l d W) (hg : W.grownBy W2 none) : TD w B f o s k g n a c l d W2 := h.move (gE hg) (h.rd.kept hg (by simp) (by simp))
theorem TD.fin {w W W2 : World} {B : Nat} {f o s k g n : Int} {a : Option Addr} {c : Nat} {l : List Rg} {d : List UInt8} (h : TD w B f o s k g n a c l d W) (hg : W.grownBy W2 (some w.heap.size)) : w.grownBy W2 none ∧ RgAt W2 a l :=
  ⟨t_new h.gw hg (Nat.le_refl _), t_at (t_far h.row hg (fun q hq => by have := (h.row.lt q hq).1; simp; omega))⟩
def TbPost (w : World) (e : Ending) (w' : World) : Prop :=
  ∃ (b : Int) (f o s k g n : Int) (a : Option Addr) (c : Nat) (l : List Rg) (d : List UInt8), e = .returned (.tuple #[.int .i64 167772161, .int .i64 b, tcpV f o s k g n a c l d]) ∧ l.length ≤ 2 ∧ w.grownBy w' none ∧ RgAt w' a l

set_option maxRecDepth 100000 in
set_option maxHeartbeats 4000000 in
theorem draw_tcpb (p : Option Addr) (n0 c0 : Nat) (w : World) (h : CodeIn w p n0) : Calls Try.prog 5 #[.slice p n0 c0] w (TbPost w) := by
  have H := Lib.hid h
  clear h
  go_enter Try.func5, Try.ntmps5
  go_wp2_with fail
  refine (open_any _ _ _ _ (H.out.kept (World.grownBy_alloc _ _ _))).mono ?_
  rintro e w1 ⟨rfl, hg, hr⟩
  simp only [World.size_alloc] at hr
  have H1 := Lib.hid (And.intro (grownBy_trans (World.grownBy_alloc w (.cells #[.int .i64 0, .int .i64 0, .int .i64 0, .int .i64 0, .int .i64 0, .int .i64 0, .slice none 0 0, .string ⟨#[]⟩] 26) none) hg) (And.intro hr ((Bx.new w 26 #[.int .i64 0, .int .i64 0, .int .i64 0, .int .i64 0, .int .i64 0, .int .i64 0, .slice none 0 0, .string ⟨#[]⟩]).keep hg)))
  clear hg hr
  go_wp2_with fail
  refine (tcp_draw _ _ H1.out.2.1).mono ?_
  rintro e w2 ⟨f, o, s, k, g, n, a, c, l, d, rfl, hl, hg, hr, ho⟩
  have hge : w.heap.size + 1 ≤ w1.heap.size := H1.out.2.2.lt
  have hge2 : w.heap.size + 2 ≤ w1.heap.size := H1.out.2.1.lt
  have HD := Lib.hid (show TD w w2.heap.size f o s k g n a c l d (w2.alloc (.cells #[.int .i64 f, .int .i64 o, .int .i64 s, .int .i64 k, .int .i64 g, .int .i64 n, .slice a l.length c, .string ⟨d.toArray⟩] 26)) from ⟨gA (t_new H1.out.1 hg (by omega)) _, hr.alloc _, (H1.out.2.2.kept hg (by simp)).alloc _, Bx.new _ _ _, t_base (t_far ho (World.grownBy_alloc _ _ none) (fun _ _ => by simp)) (by omega), hr.lt⟩)
  have HL := Lib.hid hl
  clear hge hge2 H1 H hg hr ho hl
  go_wp2_with fail
  generalize w2.alloc (.cells #[.int .i64 f, .int .i64 o, .int .i64 s, .int .i64 k, .int .i64 g, .int .i64 n, .slice a l.length c, .string ⟨d.toArray⟩] 26) = w3 at *
  generalize w2.heap.size = B at *
  have b0 := HD.out.box.c 0 (x := .int .i64 f) rfl
  have b1 := HD.out.box.c 1 (x := .int .i64 o) rfl
  have b2 := HD.out.box.c 2 (x := .int .i64 s) rfl
  have b3 := HD.out.box.c 3 (x := .int .i64 k) rfl
  have b4 := HD.out.box.c 4 (x := .int .i64 g) rfl
  have b5 := HD.out.box.c 5 (x := .int .i64 n) rfl
  have b6 := HD.out.box.c 6 (x := .slice a l.length c) rfl
  have b7 := HD.out.box.c 7 (x := .string ⟨d.toArray⟩) rfl
  have z0 := HD.out.res.c 0 (x := .int .i64 0) rfl
  have z1 := HD.out.res.c 1 (x := .int .i64 0) rfl
  have z2 := HD.out.res.c 2 (x := .int .i64 0) rfl
  have z3 := HD.out.res.c 3 (x := .int .i64 0) rfl
  have z4 := HD.out.res.c 4 (x := .int .i64 0) rfl
  have z5 := HD.out.res.c 5 (x := .int .i64 0) rfl
  have z6 := HD.out.res.c 6 (x := .slice none 0 0) rfl
  have z7 := HD.out.res.c 7 (x := .string ⟨#[]⟩) rfl
  have x0 := HD.out.res.f 0
  have x1 := HD.out.res.f 1
  have x2 := HD.out.res.f 2
  have x3 := HD.out.res.f 3
  have x4 := HD.out.res.f 4
  have x5 := HD.out.res.f 5
  have x6 := HD.out.res.f 6
  have x7 := HD.out.res.f 7
  have le := HD.out.box.lt
  have lr := HD.out.res.lt
  go_region_with (first | (go_at_call 17; refine (seq_draw (w.heap.size + 1) _ ?_).mono ?_; exact (HD.out.keep (by first | with_reducible exact World.grownBy.refl _ _ | with_reducible exact grownBy_drw)).rd; rintro e w6 ⟨y, y0, rfl, hg, hr⟩; have H5 := Lib.hid (HD.out.move (by first | with_reducible exact hg | with_reducible exact grownBy_trans grownBy_drw hg) hr); clear hg hr y0; have b0 := H5.out.box.c 0 (x := .int .i64 f) rfl; have b1 := H5.out.box.c 1 (x := .int .i64 o) rfl; have b2 := H5.out.box.c 2 (x := .int .i64 s) rfl; have b3 := H5.out.box.c 3 (x := .int .i64 k) rfl; have b4 := H5.out.box.c 4 (x := .int .i64 g) rfl; have b5 := H5.out.box.c 5 (x := .int .i64 n) rfl; have b6 := H5.out.box.c 6 (x := .slice a l.length c) rfl; have b7 := H5.out.box.c 7 (x := .string ⟨d.toArray⟩) rfl; have z0 := H5.out.res.c 0 (x := .int .i64 0) rfl; have z1 := H5.out.res.c 1 (x := .int .i64 0) rfl; have z2 := H5.out.res.c 2 (x := .int .i64 0) rfl; have z3 := H5.out.res.c 3 (x := .int .i64 0) rfl; have z4 := H5.out.res.c 4 (x := .int .i64 0) rfl; have z5 := H5.out.res.c 5 (x := .int .i64 0) rfl; have z6 := H5.out.res.c 6 (x := .slice none 0 0) rfl; have z7 := H5.out.res.c 7 (x := .string ⟨#[]⟩) rfl; have x0 := H5.out.res.f 0; have x1 := H5.out.res.f 1; have x2 := H5.out.res.f 2; have x3 := H5.out.res.f 3; have x4 := H5.out.res.f 4; have x5 := H5.out.res.f 5; have x6 := H5.out.res.f 6; have x7 := H5.out.res.f 7; have le := H5.out.box.lt; have lr := H5.out.res.lt))
  all_goals
    have HF := Lib.hid (H5.out.fin (t_eight _ w.heap.size (.int .i64 f) (.int .i64 o) (.int .i64 s) (.int .i64 k) (.int .i64 g) (.int .i64 n) (.slice a l.length c) (.string ⟨d.toArray⟩)))
    go_wp2_with fail
    exact bodyPost_ret (v := .tuple #[.int .i64 167772161, .int .i64 y, .agg #[.int .i64 f, .int .i64 o, .int .i64 s, .int .i64 k, .int .i64 g, .int .i64 n, .slice a l.length c, .string ⟨d.toArray⟩]]) (by simp [results, Try.results5, go_sem, z0, z1, z2, z3, z4, z5, z6, z7]) rfl ⟨y, f, o, s, k, g, n, a, c, l, d, rfl, HL.out, HF.out.1, HF.out.2⟩

end Go.Proofs.Ythfhffcimjolgaa
