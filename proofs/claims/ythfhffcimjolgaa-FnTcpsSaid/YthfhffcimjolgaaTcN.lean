/- The drawing of a segment. -/
import Derived.Test.YthfhffcimjolgaaTcM
namespace Go.Proofs.Ythfhffcimjolgaa
open Go.RowKit

theorem rg_below {B j : Nat} {v : Value} {W : World} {a : Option Addr} {l : List Rg} (h : RgAt W a l) (hq : ∀ q, a = some q → q.block < B) : RgAt (W.setCell ⟨B, j, none⟩ v) a l := by
  rcases h with h0 | ⟨b, off, rfl, h2, h3⟩
  · exact .inl h0
  · have hb : b < B := hq _ rfl
    exact .inr ⟨b, off, rfl, by simpa [World.setCell] using h2, fun i hi => ⟨(World.cell?_setCell_far _ _ _ _ (by simp; omega)).trans (h3 i hi).1, (World.cell?_setCell_far _ _ _ _ (by simp; omega)).trans (h3 i hi).2⟩⟩
def TokPost (w : World) (e : Ending) (w' : World) : Prop :=
  ∃ (f o s k g n : Int) (a : Option Addr) (c : Nat) (l : List Rg) (d : List UInt8), e = .returned (tcpV f o s k g n a c l d) ∧ w.grownBy w' none ∧ RgAt w' a l ∧ l.length ≤ 2

set_option maxRecDepth 100000 in
set_option maxHeartbeats 4000000 in
theorem draw_tok (p : Option Addr) (n0 c0 : Nat) (w : World) (h : CodeIn w p n0) : Calls Try.prog 10 #[.slice p n0 c0] w (TokPost w) := by
  have H := Lib.hid h
  clear h
  go_enter Try.func10, Try.ntmps10
  go_wp2_with fail
  refine (open_any _ _ _ _ (H.out.kept (World.grownBy_alloc _ _ _))).mono ?_
  rintro e w1 ⟨rfl, hg, hr⟩
  simp only [World.size_alloc] at hr
  have H1 := Lib.hid (And.intro (grownBy_trans (World.grownBy_alloc w (.cells #[.int .i64 0, .int .i64 0, .int .i64 0, .int .i64 0, .int .i64 0, .int .i64 0, .slice none 0 0, .string ⟨#[]⟩] 26) none) hg) (And.intro hr ((Bx.new w 26 #[.int .i64 0, .int .i64 0, .int .i64 0, .int .i64 0, .int .i64 0, .int .i64 0, .slice none 0 0, .string ⟨#[]⟩]).keep hg)))
  clear hg hr
  go_wp2_with fail
  refine (tcp_draw _ _ H1.out.2.1).mono ?_
  rintro e w2 ⟨f, o, s, k, g, n, a, c, l, d, rfl, hl, hg, hr, ho⟩
  have hge : w.heap.size + 1 ≤ w1.heap.size := H1.out.2.2.lt
  have hge2 : w.heap.size + 2 ≤ w1.heap.size := H1.out.2.1.lt
  have HQ := Lib.hid (show ∀ q, a = some q → w.heap.size + 2 ≤ q.block ∧ q.block < w2.heap.size from fun q hq => by have := World.ownsRow.lt ho q.block (by rw [hq]; rfl); omega)
  have HD := Lib.hid (show TD w w2.heap.size f o s k g n a c l d (w2.alloc (.cells #[.int .i64 f, .int .i64 o, .int .i64 s, .int .i64 k, .int .i64 g, .int .i64 n, .slice a l.length c, .string ⟨d.toArray⟩] 26)) from ⟨gA (t_new H1.out.1 hg (by omega)) _, hr.alloc _, (H1.out.2.2.kept hg (by simp)).alloc _, Bx.new _ _ _, t_base (t_far ho (World.grownBy_alloc _ _ none) (fun _ _ => by simp)) (by omega), hr.lt⟩)
  have HL := Lib.hid hl
  clear hge hge2 H1 H hg hr ho hl
  go_upto_region 3 with fail
  generalize w2.alloc (.cells #[.int .i64 f, .int .i64 o, .int .i64 s, .int .i64 k, .int .i64 g, .int .i64 n, .slice a l.length c, .string ⟨d.toArray⟩] 26) = w3 at *
  generalize w2.heap.size = B at *
  go_wp2_with fail
  refine (once_any _ _ _ HD.out.rd (by omega) (by omega)).mono ?_
  rintro e w4 ⟨b1, rfl, hg, hr⟩
  have HE := Lib.hid (HD.out.move hg hr)
  clear hg hr HD
  cases b1
  · go_wp2_with (first | (refine wpList_load_row rfl 26 _ rfl B rfl 26 _ (0, 0) _ HE.out.box Try.underlying26 rfl info_t ?_) | (refine wpList_store_row rfl 26 _ _ rfl w.heap.size #[.int .i64 f, .int .i64 o, .int .i64 s, .int .i64 k, .int .i64 g, .int .i64 n, .slice a l.length c, .string ⟨d.toArray⟩] rfl rfl 26 _ HE.out.res info_t rfl (by simp [Value.oneCell']) ?_))
    refine bodyPost_ret (v := tcpV f o s k g n a c l d) (results_cell_row Try.results10 _ _ w.heap.size 26 #[.int .i64 f, .int .i64 o, .int .i64 s, .int .i64 k, .int .i64 g, .int .i64 n, .slice a l.length c, .string ⟨d.toArray⟩] (0, 0) _ rfl (setRow_heap w4 w.heap.size _ _ 26 (0, 0) HE.out.res) Try.underlying26 rfl info_t) rfl ?_
    exact ⟨f, o, s, k, g, n, a, c, l, d, rfl, row_grown8 HE.out.gw (Nat.le_refl _) _, rg_row8 (B := w.heap.size + 2) ⟨t_at HE.out.row, fun q hq => (HQ.out q hq).1⟩ (by omega) _, HL.out⟩
  · go_wp2_with fail
    refine (off_w _ _ _ _ HE.out.rd (by omega) (wf_of (by omega) (by omega))).mono ?_
    rintro e w5 ⟨q, _, rfl, hg, hr⟩
    have HF := Lib.hid (HE.out.move hg hr)
    clear hg hr HE
    have b5 := HF.out.box.c 5 (x := .int .i64 n) rfl
    have f5 := HF.out.box.f 5
    have HX := Lib.hid (show Bx (w5.setCell ⟨B, 5, none⟩ (.int .i64 q)) B 26 #[.int .i64 f, .int .i64 o, .int .i64 s, .int .i64 k, .int .i64 g, .int .i64 q, .slice a l.length c, .string ⟨d.toArray⟩] ∧ Bx (w5.setCell ⟨B, 5, none⟩ (.int .i64 q)) w.heap.size 26 #[.int .i64 0, .int .i64 0, .int .i64 0, .int .i64 0, .int .i64 0, .int .i64 0, .slice none 0 0, .string ⟨#[]⟩] ∧ w.grownBy (w5.setCell ⟨B, 5, none⟩ (.int .i64 q)) none ∧ RgAt (w5.setCell ⟨B, 5, none⟩ (.int .i64 q)) a l from
      ⟨HF.out.box.s 5 _, HF.out.res.other (by have := HF.out.lt; omega) 5 _, gS HF.out.gw (by have := HF.out.lt; omega) _ _, rg_below (t_at HF.out.row) fun q hq => (HQ.out q hq).2⟩)
    go_upto_region 5 with fail
    generalize w5.setCell ⟨B, 5, none⟩ (.int .i64 q) = w6 at *
    clear b5 f5
    go_wp2_with (first | (refine wpList_load_row rfl 26 _ rfl B rfl 26 _ (0, 0) _ HX.out.1 Try.underlying26 rfl info_t ?_) | (refine wpList_store_row rfl 26 _ _ rfl w.heap.size #[.int .i64 f, .int .i64 o, .int .i64 s, .int .i64 k, .int .i64 g, .int .i64 q, .slice a l.length c, .string ⟨d.toArray⟩] rfl rfl 26 _ HX.out.2.1 info_t rfl (by simp [Value.oneCell']) ?_))
    refine bodyPost_ret (v := tcpV f o s k g q a c l d) (results_cell_row Try.results10 _ _ w.heap.size 26 #[.int .i64 f, .int .i64 o, .int .i64 s, .int .i64 k, .int .i64 g, .int .i64 q, .slice a l.length c, .string ⟨d.toArray⟩] (0, 0) _ rfl (setRow_heap w6 w.heap.size _ _ 26 (0, 0) HX.out.2.1) Try.underlying26 rfl info_t) rfl ?_
    exact ⟨f, o, s, k, g, q, a, c, l, d, rfl, row_grown8 HX.out.2.2.1 (Nat.le_refl _) _, rg_row8 (B := w.heap.size + 2) ⟨HX.out.2.2.2, fun q hq => (HQ.out q hq).1⟩ (by omega) _, HL.out⟩

end Go.Proofs.Ythfhffcimjolgaa
