/- Whole rows appended; a code made longer by one byte; the drawing of an adding, its row owned. -/
import Derived.Test.YtljmllmkmjamoaaFlE
import Derived.Test.YtljmllmkmjamoaaFla
import Derived.Maps.AppendAt
import Derived.Laws.AppendOwnNone
import Derived.Deep.DeepCutAuto
namespace Go.Proofs.Ytljmllmkmjamoaa
open Go.RowKit

/-- A row as an argument of append. -/
def SlX (w : World) (v : Value) (q : List Rg) : Prop := (v = .slice none 0 0 ∧ q = []) ∨ ∃ ad c, v = .slice (some ad) q.length c ∧ ∀ j u, (rgsV q)[j]? = some u → w.cell? (ad.add j) = some u

theorem slx_own {w : World} {B c : Nat} {a : Option Addr} {l : List Rg} (h : OwnRg w B a c l) : SlX w (.slice a l.length c) l := by
  rcases h.2 with ⟨hv, h0⟩ | ⟨g, cap, cur, hv, _⟩
  · exact .inl ⟨by rw [hv], List.length_eq_zero_iff.mp h0⟩
  · exact .inr ⟨_, _, hv, h.cells (by rw [hv]; rfl)⟩

theorem rgsV_cells (l : List Rg) : ∀ u ∈ rgsV l, u.oneCell' = true := by
  induction l with
  | nil => simp [rgsV]
  | cons p l ih =>
    intro u hu
    have e : rgsV (p :: l) = .int .i64 p.1 :: .int .i64 p.2 :: rgsV l := rfl
    rw [e] at hu
    rcases List.mem_cons.mp hu with rfl | hu
    · rfl
    · rcases List.mem_cons.mp hu with rfl | hu
      · rfl
      · exact ih u hu

theorem SlX.kept {w w' : World} {v : Value} {q : List Rg} (h : SlX w v q) (hg : w.grownBy w' none) : SlX w' v q := by
  rcases h with h | ⟨ad, c, hv, hc⟩
  · exact .inl h
  · exact .inr ⟨ad, c, hv, fun j u hu => hg.cell (hc j u hu) (by simp)⟩

theorem wpList_append_slx {P : Program} {w : World} {ops : Array Oper} {rest : List Oper} {o : Oper} {a : Act} {Q : Exit → Act → World → Prop} (hgd : o.guard = none) (s x : Operand) (t : TypeId)
    (ho : o.op = .call { callee := .builtin .append, args := #[s, x], argTypes := #[t, t] })
    (base : Nat) (e : TypeId) (i : TypeInfo) (z : Value) (bytes : Nat) (ht : P.underlying t = some (.slice e)) (hi : P.info? e = some i) (hz : i.zero = some z)
    (hsize : i.size = 2) (hby : i.bytes = bytes) (hzs : z.cells.size = 2)
    (v : Value) (n : Nat) (xs : List Value) (hs : a.eval s = v) (hown : w.ownsRow base e 2 v n xs)
    (xv : Value) (q : List Rg) (hx : a.eval x = xv) (hq : SlX w xv q)
    (h63 : n + q.length ≤ maxLen) (hbytes : (n + q.length) * bytes ≤ 140737488355328) (hbase : base ≤ w.heap.size)
    (h : ∀ v' w', w'.ownsRow base e 2 v' (n + q.length) (xs ++ rgsV q) → w.grownBy w' v.ownBlock → wpList P ops Q rest (a.put o.dst v') w') :
    wpList P ops Q (o :: rest) a w := by
  rcases hq with ⟨rfl, rfl⟩ | ⟨ad, c, rfl, hc⟩
  · refine wpList_append_own_none hgd s x t ho base e i 2 ht hi v n xs hs hown hx ?_
    have := h v w (by simpa [rgsV] using hown) (World.grownBy.refl _ _)
    exact this
  · exact wpList_append_own w hgd s x t ho base e i z 2 bytes ht hi hz hsize hby hzs (by decide) v n xs hs hown ad q.length c (rgsV q) hx (rgsV_len q) hc (rgsV_cells q) h63 hbytes hbase (fun v' w' h2 h3 _ => h v' w' h2 h3)

/-- A code as an argument of append. -/
def SlB (w : World) (v : Value) (n : Nat) (xs : List Value) : Prop := (∀ u ∈ xs, ∃ y : Int, 0 ≤ y ∧ y ≤ 255 ∧ u = .int .u8 y) ∧ xs.length = n ∧ ((v = .slice none 0 0 ∧ n = 0) ∨ ∃ ad c, v = .slice (some ad) n c ∧ ∀ j u, xs[j]? = some u → w.cell? (ad.add j) = some u)

theorem SlB.kept {w w' : World} {v : Value} {n : Nat} {xs : List Value} (h : SlB w v n xs) (hg : w.grownBy w' none) : SlB w' v n xs := by
  refine ⟨h.1, h.2.1, ?_⟩
  rcases h.2.2 with h | ⟨ad, c, hv, hc⟩
  · exact .inl h
  · exact .inr ⟨ad, c, hv, fun j u hu => hg.cell (hc j u hu) (by simp)⟩

theorem slb_of {w : World} {a : Option Addr} {n c : Nat} {zs : List Int}
    (h : (a = none ∧ n = 0 ∧ c = 0 ∧ zs = []) ∨ ∃ x, a = some x ∧ n ≤ c ∧ c ≤ maxLen ∧ zs.length = c ∧ (∀ i, i < zs.length → w.cell? (x.add i) = some (.int .u8 (zs.getD i 0))) ∧ ∀ n ∈ zs, (Lit.int .u8 n).wf = true) : ∃ xs, SlB w (.slice a n c) n xs := by
  rcases h with ⟨rfl, rfl, rfl, rfl⟩ | ⟨x, rfl, hl, hm, hz, hc, hw⟩
  · exact ⟨[], by simp, rfl, .inl ⟨rfl, rfl⟩⟩
  · refine ⟨(zs.take n).map (fun y => .int .u8 y), ?_, by simp; omega, .inr ⟨x, c, rfl, ?_⟩⟩
    · intro u hu
      obtain ⟨y, hy, rfl⟩ := List.mem_map.mp hu
      have hb := bounds_u8 (hw _ (List.mem_of_mem_take hy))
      exact ⟨y, hb.1, hb.2, rfl⟩
    · intro j u hu
      rw [List.getElem?_map, List.getElem?_take] at hu
      by_cases hj : j < n
      · rw [if_pos hj] at hu
        have hjz : j < zs.length := by omega
        rw [List.getElem?_eq_getElem hjz] at hu
        simp only [Option.map_some, Option.some.injEq] at hu
        rw [hc j hjz, ← hu, List.getD_eq_getElem?_getD, List.getElem?_eq_getElem hjz]
        rfl
      · rw [if_neg hj] at hu
        simp at hu

theorem code_own {w : World} {B : Nat} {T : TypeId} {a : Option Addr} {n c : Nat} {xs : List Value} (h : w.ownsRow B T 1 (.slice a n c) n xs) (hx : ∀ u ∈ xs, ∃ v : Int, 0 ≤ v ∧ v ≤ 255 ∧ u = .int .u8 v) (hn : n ≤ maxLen) : CodeIn w a n := by
  refine ⟨hn, ?_⟩
  have hlen := h.1
  rcases h.2 with ⟨hv, h0⟩ | ⟨g, cap, cur, hv, hb, hg, _⟩
  · exact .inl h0
  · simp only [Value.slice.injEq] at hv
    obtain ⟨rfl, _, rfl⟩ := hv
    refine .inr ⟨g, 0, rfl, (h.lt g rfl).2, fun i hi => ?_⟩
    have hxl : i < xs.length := by rw [hlen]; omega
    have h1 := h.cellAt i (by omega)
    rw [List.getElem?_eq_getElem hxl] at h1
    obtain ⟨v, v0, v1, hv⟩ := hx _ (List.getElem_mem hxl)
    rw [hv] at h1
    exact ⟨v, v0, v1, by rw [Nat.zero_add]; exact h1⟩

theorem wpList_append_slb {P : Program} {w : World} {ops : Array Oper} {rest : List Oper} {o : Oper} {a : Act} {Q : Exit → Act → World → Prop} (hgd : o.guard = none) (s x : Operand) (t : TypeId)
    (ho : o.op = .call { callee := .builtin .append, args := #[s, x], argTypes := #[t, t] })
    (base : Nat) (e : TypeId) (i : TypeInfo) (z : Value) (ht : P.underlying t = some (.slice e)) (hi : P.info? e = some i) (hz : i.zero = some z)
    (hsize : i.size = 1) (hby : i.bytes = 1) (hzs : z.cells.size = 1)
    (v : Value) (n : Nat) (xs : List Value) (hs : a.eval s = v) (hown : w.ownsRow base e 1 v n xs)
    (xv : Value) (m : Nat) (ys : List Value) (hx : a.eval x = xv) (hq : SlB w xv m ys)
    (h63 : n + m ≤ 100000000) (hbase : base ≤ w.heap.size)
    (h : ∀ v' w', w'.ownsRow base e 1 v' (n + m) (xs ++ ys) → w.grownBy w' v.ownBlock → wpList P ops Q rest (a.put o.dst v') w') :
    wpList P ops Q (o :: rest) a w := by
  obtain ⟨hb, hl, hq⟩ := hq
  rcases hq with ⟨rfl, rfl⟩ | ⟨ad, c, rfl, hc⟩
  · obtain rfl := List.length_eq_zero_iff.mp hl
    refine wpList_append_own_none hgd s x t ho base e i 1 ht hi v n xs hs hown hx ?_
    have := h v w (by simpa using hown) (World.grownBy.refl _ _)
    exact this
  · refine wpList_append_own w hgd s x t ho base e i z 1 1 ht hi hz hsize hby hzs (by decide) v n xs hs hown ad m c ys hx (by omega) hc ?_ (by unfold maxLen; omega) (by omega) hbase (fun v' w' h2 h3 _ => h v' w' h2 h3)
    intro u hu
    obtain ⟨y, _, _, rfl⟩ := hb u hu
    rfl

def DfbPost (w : World) (e : Ending) (w' : World) : Prop :=
  ∃ a c l, ∃ t q d : Int, e = .returned (.tuple #[.slice a l.length c, .agg #[.int .i64 t, .int .i64 q], .int .i64 d]) ∧ w.grownBy w' none ∧ OwnRg w' w.heap.size a c l ∧ l.length ≤ 100

set_option maxRecDepth 100000 in
set_option maxHeartbeats 2000000 in
theorem draw_fb2 (a : Option Addr) (n c : Nat) (w : World) (h : CodeIn w a n) : Calls Try.prog 5 #[.slice a n c] w (DfbPost w) := by
  have H := Lib.hid (h.kept (World.grownBy_alloc w (.cells #[.int .i64 0, .int .i64 0] 26) none))
  have HZ := Lib.hid (And.intro (Bx.new w 26 #[.int .i64 0, .int .i64 0]) (World.grownBy_alloc w (.cells #[.int .i64 0, .int .i64 0] 26) none))
  clear h
  go_enter Try.func5, Try.ntmps5
  go_wp2_with fail
  generalize w.alloc (.cells #[.int .i64 0, .int .i64 0] 26) = w0 at *
  have hw0 : w.heap.size < w0.heap.size := HZ.out.1.lt
  refine (open_any _ _ _ _ H.out).mono ?_
  rintro e w1 ⟨rfl, hg, hr⟩
  have H1 := Lib.hid (And.intro (grownBy_trans HZ.out.2 hg) (And.intro hr (HZ.out.1.keep hg)))
  clear hg hr
  go_wp2_with fail
  refine (samples_draw _ _ H1.out.2.1).mono ?_
  rintro e w2 ⟨al, cl, l, rfl, hg, hr, ho, hl⟩
  have hsz := H1.out.2.1.lt
  have H2 := Lib.hid (And.intro (grownBy_new H1.out.1 hg (by omega)) (And.intro hr (And.intro (H1.out.2.2.kept hg (by simp; omega)) ho)))
  clear hg hr ho
  go_wp2_with fail
  refine (sample_draw _ _ _ _ _ _ H2.out.2.1 H2.out.2.2.2 hsz (by omega)).mono ?_
  rintro e w3 ⟨t, q, rfl, hg, hr⟩
  have hX := Bx.new w3 26 #[.int .i64 t, .int .i64 q]
  have gX := World.grownBy_alloc w3 (.cells #[.int .i64 t, .int .i64 q] 26) none
  have H3 := Lib.hid (And.intro (grownBy_trans (grownBy_new H2.out.1 hg (by omega)) gX) (And.intro (rd_ext hr gX) (And.intro ((H2.out.2.2.1.kept hg (by simp; omega)).keep gX) (And.intro (own_kept (own_r H2.out.2.2.2 hsz hg) gX) hX))))
  have hsz3 : w0.heap.size < w3.heap.size := hr.lt
  clear hg hr hX gX
  go_wp2_with fail
  generalize w3.alloc (.cells #[.int .i64 t, .int .i64 q] 26) = w4 at *
  have x0 := H3.out.2.2.2.2.c 0 rfl
  have x1 := H3.out.2.2.2.2.c 1 rfl
  have r0 := H3.out.2.2.1.c 0 rfl
  have r1 := H3.out.2.2.1.c 1 rfl
  have f0 := H3.out.2.2.1.f 0
  have f1 := H3.out.2.2.1.f 1
  have lr := H3.out.2.2.1.lt
  go_region_with (go_at_call 12; refine (off_w _ _ _ _ ?_ ⟨by decide, by decide⟩ (wf_of (by decide) (by decide))).mono ?_; (first | exact rd_ext H3.out.2.1 grownBy_drew | exact H3.out.2.1); rintro e w5 ⟨d, hd, rfl, hg, hr⟩; have hgd : w4.grownBy w5 (some w0.heap.size) := (by first | exact hg | exact grownBy_trans grownBy_drew hg); have HX5 := Lib.hid (H3.out.2.2.2.2.kept hgd (by simp; omega)); have HR5 := Lib.hid (H3.out.2.2.1.kept hgd (by simp; omega)); have HG5 := Lib.hid (grownBy_new H3.out.1 hgd (by omega)); have HO5 := Lib.hid (own_r H3.out.2.2.2.1 hsz hgd); clear hg hr hd hgd; have y0 := HX5.out.c 0 rfl; have y1 := HX5.out.c 1 rfl; have s0 := HR5.out.c 0 rfl; have s1 := HR5.out.c 1 rfl; have sf0 := HR5.out.f 0; have sf1 := HR5.out.f 1)
  all_goals
    go_wp2_with fail
    refine bodyPost_ret (v := .tuple #[.slice al l.length cl, .agg #[.int .i64 t, .int .i64 q], .int .i64 d]) (by simp [results, Try.results5, go_sem, s0, s1]) rfl ⟨al, cl, l, t, q, d, rfl, gS (gS HG5.out (Nat.le_refl _) 0 _) (Nat.le_refl _) 1 _, ?_, hl⟩
    exact own_base (own_setB (own_setB HO5.out (by omega)) (by omega)) (by omega)

end Go.Proofs.Ytljmllmkmjamoaa
