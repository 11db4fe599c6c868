/- The drawings of filters and of samples. -/
import Derived.Test.YteomllgkcolmhaaFlD
import Derived.Test.YteomllgkcolmhaaOffW
import Derived.Deep.RegionWith
namespace Go.Proofs.Yteomllgkcolmhaa
open Go.RowKit

theorem own_r {W W' : World} {B c r : Nat} {a : Option Addr} {l : List Rg} (h : OwnRg W B a c l) (hB : r < B) (hg : W.grownBy W' (some r)) : OwnRg W' B a c l := by
  refine h.kept hg ?_
  cases hv : Value.ownBlock (.slice a l.length c) with
  | none => exact .inl rfl
  | some g =>
    refine .inr fun e => ?_
    have := (h.lt g hv).1
    simp at e
    omega
theorem g_ext {w a b : World} {r : Nat} (h : w.grownBy a (some r)) (k : a.grownBy b none) : w.grownBy b (some r) := grownBy_trans h (gE k)
theorem rd_ext {w a : World} {r : Nat} (h : RdOk w r) (k : w.grownBy a none) : RdOk a r := h.kept k (by simp) (by simp)

theorem own_setB {w : World} {B D o c : Nat} {a : Option Addr} {v : Value} {l : List Rg} (h : OwnRg w B a c l) (hne : D < B) : OwnRg (w.setCell ⟨D, o, none⟩ v) B a c l := by
  refine h.kept (grownBy_set w D o v) ?_
  cases hv : Value.ownBlock (.slice a l.length c) with
  | none => exact .inl rfl
  | some g =>
    refine .inr fun e => ?_
    have := (h.lt g hv).1
    simp at e
    omega

def SmPost (w : World) (r : Nat) (e : Ending) (w' : World) : Prop :=
  ∃ a c l, e = .returned (.slice a l.length c) ∧ w.grownBy w' (some r) ∧ RdOk w' r ∧ OwnRg w' w.heap.size a c l ∧ l.length ≤ 100
def SmRel (w : World) (r : Nat) (v t i : Value) (wr : World) : Prop :=
  ∃ (a : Option Addr) (c : Nat) (l : List Rg) (x k : Int), v = .slice a l.length c ∧ t = .int .i64 x ∧ i = .int .i64 k ∧ 0 ≤ k ∧ k ≤ 6 ∧ 0 ≤ x ∧ x + 29 * k ≤ 200 ∧ w.grownBy wr (some r) ∧ RdOk wr r ∧ OwnRg wr w.heap.size a c l ∧ l.length ≤ 100

/-- Where the drawing of a sample stands. -/
structure Sd (w : World) (r : Nat) (X : Nat) (t q : Int) (W : World) : Prop where
  g : w.grownBy W (some r)
  rd : RdOk W r
  res : Bx W w.heap.size 28 #[.int .i64 0, .int .i64 0]
  x : Bx W X 28 #[.int .i64 t, .int .i64 q]
  lt : w.heap.size < X
theorem Sd.step {w W W' : World} {r X : Nat} {t q : Int} (h : Sd w r X t q W) (hr : r < w.heap.size) (hg : W.grownBy W' (some r)) (hd : RdOk W' r) : Sd w r X t q W' :=
  ⟨grownBy_trans h.g hg, hd, h.res.kept hg (by simp; omega), h.x.kept hg (by have := h.lt; simp; omega), h.lt⟩
theorem Sd.drew {w W : World} {r X : Nat} {t q : Int} (h : Sd w r X t q W) : Sd w r X t q W.drew := ⟨g_ext h.g grownBy_drew, rd_ext h.rd grownBy_drew, h.res.keep grownBy_drew, h.x.keep grownBy_drew, h.lt⟩
theorem gSx {w W : World} {r : Nat} (h : w.grownBy W (some r)) {b : Nat} (hb : w.heap.size ≤ b) (i : Nat) (v : Value) : w.grownBy (W.setCell ⟨b, i, none⟩ v) (some r) := gSr h hb i v
theorem Sd.set0 {w W : World} {r X : Nat} {t q : Int} (h : Sd w r X t q W) (hr : r < w.heap.size) (y : Int) : Sd w r X y q (W.setCell ⟨X, 0, none⟩ (.int .i64 y)) :=
  ⟨gSr h.g (Nat.le_of_lt h.lt) 0 _, h.rd.kept (grownBy_set W X 0 _) (by have := h.lt; simp; omega) (by intro k e; have := h.lt; simp at e; omega), h.res.other (by have := h.lt; omega) 0 _, h.x.s 0 _, h.lt⟩
theorem Sd.set1 {w W : World} {r X : Nat} {t q : Int} (h : Sd w r X t q W) (hr : r < w.heap.size) (y : Int) : Sd w r X t y (W.setCell ⟨X, 1, none⟩ (.int .i64 y)) :=
  ⟨gSr h.g (Nat.le_of_lt h.lt) 1 _, h.rd.kept (grownBy_set W X 1 _) (by have := h.lt; simp; omega) (by intro k e; have := h.lt; simp at e; omega), h.res.other (by have := h.lt; omega) 1 _, h.x.s 1 _, h.lt⟩

def SpPost (w : World) (r : Nat) (e : Ending) (w' : World) : Prop :=
  ∃ t q : Int, e = .returned (.agg #[.int .i64 t, .int .i64 q]) ∧ w.grownBy w' (some r) ∧ RdOk w' r
theorem Sd.fin {w W : World} {r X : Nat} {t q : Int} (h : Sd w r X t q W) (hr : r < w.heap.size) : SpPost w r (.returned (.agg #[.int .i64 t, .int .i64 q])) ((W.setCell ⟨w.heap.size, 0, none⟩ (.int .i64 t)).setCell ⟨w.heap.size, 1, none⟩ (.int .i64 q)) :=
  ⟨t, q, rfl, gSr (gSr h.g (Nat.le_refl _) 0 _) (Nat.le_refl _) 1 _, h.rd.kept (grownBy_trans (grownBy_set W w.heap.size 0 (.int .i64 t)) (grownBy_set _ w.heap.size 1 (.int .i64 q))) (by simp; omega) (by intro k e; simp at e; omega)⟩

set_option maxRecDepth 100000 in
set_option maxHeartbeats 3000000 in
theorem sample_draw (r B : Nat) (a : Option Addr) (c : Nat) (l : List Rg) (w : World) (h : RdOk w r) (ho : OwnRg w B a c l) (hB : r < B) (hl : l.length ≤ 1000) : Calls Try.prog 19 #[.pointer (some ⟨r, 0, none⟩), .slice a l.length c] w (SpPost w r) := by
  have hrlt : r < w.heap.size := h.lt
  have hZ := Bx.new w 28 #[.int .i64 0, .int .i64 0]
  have gZ := World.grownBy_alloc w (.cells #[.int .i64 0, .int .i64 0] 28) none
  have H0 := Lib.hid (And.intro (gE (r := r) gZ) (And.intro (h.alloc (.cells #[.int .i64 0, .int .i64 0] 28)) (And.intro (own_kept ho gZ) hZ)))
  clear h ho hZ gZ
  go_enter Try.func19, Try.ntmps19
  go_wp2_with fail
  generalize w.alloc (.cells #[.int .i64 0, .int .i64 0] 28) = w0 at *
  refine (below_any _ _ _ H0.out.2.1 (by omega)).mono ?_
  rintro e w1 ⟨v1, a0, a1, rfl, hg, hr⟩
  have H1 := Lib.hid (And.intro (grownBy_trans H0.out.1 hg) (And.intro hr (And.intro (own_r H0.out.2.2.1 hB hg) (H0.out.2.2.2.kept hg (by simp; omega)))))
  clear hg hr a0 a1
  go_wp2_with fail
  refine (below_any _ _ _ H1.out.2.1 (by omega)).mono ?_
  rintro e w2 ⟨v2, b0, b1, rfl, hg, hr⟩
  have H2 := Lib.hid (And.intro (grownBy_trans H1.out.1 hg) (And.intro hr (And.intro (own_r H1.out.2.2.1 hB hg) (H1.out.2.2.2.kept hg (by simp; omega)))))
  clear hg hr b0 b1
  have hX := Bx.new w2 28 #[.int .i64 v1, .int .i64 v2]
  have gX := World.grownBy_alloc w2 (.cells #[.int .i64 v1, .int .i64 v2] 28) none
  have HD := Lib.hid (show Sd w r w2.heap.size v1 v2 (w2.alloc (.cells #[.int .i64 v1, .int .i64 v2] 28)) from ⟨g_ext H2.out.1 gX, rd_ext H2.out.2.1 gX, H2.out.2.2.2.keep gX, hX, H2.out.2.2.2.lt⟩)
  have HO := Lib.hid (own_kept H2.out.2.2.1 gX)
  clear hX gX
  rcases Nat.eq_zero_or_pos l.length with h0 | h0
  · obtain rfl := List.length_eq_zero_iff.mp h0
    clear h0
    go_wp2_with fail
    refine (once_any _ _ _ HD.out.rd (by omega) (by omega)).mono ?_
    rintro e w6 ⟨o, rfl, hg, hr⟩
    have H6 := Lib.hid (HD.out.step hrlt hg hr)
    clear hg hr HD
    cases o
    · have x0 := H6.out.x.c 0 rfl
      have x1 := H6.out.x.c 1 rfl
      have r0 := H6.out.res.c 0 rfl
      have r1 := H6.out.res.c 1 rfl
      have f0 := H6.out.res.f 0
      have f1 := H6.out.res.f 1
      go_wp2_with fail
      exact bodyPost_ret (v := .agg #[.int .i64 v1, .int .i64 v2]) (by simp [results, Try.results19, go_sem, r0, r1]) rfl (H6.out.fin hrlt)
    · go_wp2_with fail
      refine (off_w _ _ _ _ H6.out.rd ⟨by decide, by decide⟩ (wf_of (by decide) (by decide))).mono ?_
      rintro e w7 ⟨y, hy, rfl, hg, hr⟩
      have H7 := Lib.hid (H6.out.step hrlt hg hr)
      have H8 := Lib.hid (H7.out.set1 hrlt y)
      clear hg hr hy H6
      have z0 := H7.out.x.c 0 rfl
      have z1 := H7.out.x.c 1 rfl
      have zf := H7.out.x.f 1
      have x0 := H8.out.x.c 0 rfl
      have x1 := H8.out.x.c 1 rfl
      have r0 := H8.out.res.c 0 rfl
      have r1 := H8.out.res.c 1 rfl
      have f0 := H8.out.res.f 0
      have f1 := H8.out.res.f 1
      go_wp2_with fail
      exact bodyPost_ret (v := .agg #[.int .i64 v1, .int .i64 y]) (by simp [results, Try.results19, go_sem, r0, r1]) rfl (H8.out.fin hrlt)
  · obtain ⟨k, hk⟩ : ∃ k, l.length = k + 1 := ⟨l.length - 1, by omega⟩
    have hk0 : (0 : Int) ≤ (k : Int) := by omega
    have hk2 : (0 : Int) < (l.length : Int) := by omega
    have hk3 : (k : Int) < (l.length : Int) := by omega
    have hk4 : k < l.length := by omega
    have hk5 : IntKind.i64.wrap (k : Int) = k := IntWalk.i64_in _ (by omega)
    have hk6 : IntKind.i64.wrap ((l.length : Int) - 1) = k := by rw [IntWalk.i64_in _ (by omega)]; omega
    have HKL := Lib.hid hk
    clear hk
    go_wp2_with fail
    generalize w2.alloc (.cells #[.int .i64 v1, .int .i64 v2] 28) = w3 at *
    obtain ⟨b, off, rfl, d0⟩ := fa_last (rg_own HO.out) k hk4
    generalize l[k] = z at *
    obtain ⟨tz, rz⟩ := z
    dsimp only at d0
    have x0 := HD.out.x.c 0 rfl
    have x1 := HD.out.x.c 1 rfl
    have xf := HD.out.x.f 0
    have hbr : b ≠ r := by
      rcases HO.out.2 with ⟨hv, hh⟩ | ⟨g, cap, cur, hv, hb, _⟩
      · omega
      · simp at hv
        obtain ⟨⟨rfl, _⟩, _⟩ := hv
        omega
    go_region_with (go_at_call 37; refine (below_any _ _ _ ?_ (by omega)).mono ?_; (first | exact HD.out.drew.rd | exact HD.out.rd); rintro e w5 ⟨v3, c0, c1, rfl, hg, hr⟩; have HD5 := Lib.hid (HD.out.drew.step hrlt hg hr); have y0 := HD5.out.x.c 0 rfl; have y1 := HD5.out.x.c 1 rfl; have yf := HD5.out.x.f 0; have e0 := hg.cell (a := ⟨b, off + k * 2, none⟩) (v := .int .i64 tz) (by first | assumption | (go_simp; done) | (simp [*]; done)) (by simp; omega); clear hg hr c0 c1)
    all_goals
      have HD := Lib.hid (HD5.out.set0 hrlt (IntKind.i64.wrap (IntKind.i64.wrap (v1 + tz) - v3)))
      generalize IntKind.i64.wrap (IntKind.i64.wrap (v1 + tz) - v3) = tt at *
      generalize w5.setCell ⟨w2.heap.size, 0, none⟩ (.int .i64 tt) = w8 at *
      go_wp2_with fail
      refine (once_any _ _ _ HD.out.rd (by omega) (by omega)).mono ?_
      rintro e w6 ⟨o, rfl, hg, hr⟩
      have H6 := Lib.hid (HD.out.step hrlt hg hr)
      clear hg hr HD
      cases o
      · have x0 := H6.out.x.c 0 rfl
        have x1 := H6.out.x.c 1 rfl
        have r0 := H6.out.res.c 0 rfl
        have r1 := H6.out.res.c 1 rfl
        have f0 := H6.out.res.f 0
        have f1 := H6.out.res.f 1
        go_wp2_with fail
        exact bodyPost_ret (v := .agg #[.int .i64 tt, .int .i64 v2]) (by simp [results, Try.results19, go_sem, r0, r1]) rfl (H6.out.fin hrlt)
      · go_wp2_with fail
        refine (off_w _ _ _ _ H6.out.rd ⟨by decide, by decide⟩ (wf_of (by decide) (by decide))).mono ?_
        rintro e w7 ⟨y, hy, rfl, hg, hr⟩
        have H7 := Lib.hid (H6.out.step hrlt hg hr)
        have H8 := Lib.hid (H7.out.set1 hrlt y)
        clear hg hr hy H6
        have z0 := H7.out.x.c 0 rfl
        have z1 := H7.out.x.c 1 rfl
        have zf := H7.out.x.f 1
        have x0 := H8.out.x.c 0 rfl
        have x1 := H8.out.x.c 1 rfl
        have r0 := H8.out.res.c 0 rfl
        have r1 := H8.out.res.c 1 rfl
        have f0 := H8.out.res.f 0
        have f1 := H8.out.res.f 1
        go_wp2_with fail
        exact bodyPost_ret (v := .agg #[.int .i64 tt, .int .i64 y]) (by simp [results, Try.results19, go_sem, r0, r1]) rfl (H8.out.fin hrlt)

def DfaPost (w : World) (e : Ending) (w' : World) : Prop :=
  ∃ a c l, ∃ t q d : Int, e = .returned (.tuple #[.slice a l.length c, .agg #[.int .i64 t, .int .i64 q], .int .i64 d]) ∧ w.grownBy w' none ∧ RgAt w' a l ∧ l.length ≤ 100

theorem rgsV_set : ∀ (l : List Rg) (i : Nat) (h : i < l.length) (v : Int), (rgsV l).set (i * 2 + 1) (.int .i64 v) = rgsV (l.set i ((l[i]).1, v))
  | p :: l, 0, _, v => by simp [rgsV, rgV]
  | p :: l, i + 1, h, v => by
    have a := rgsV_set l i (by simpa using h) v
    have e : rgsV (p :: l) = .int .i64 p.1 :: .int .i64 p.2 :: rgsV l := rfl
    rw [e, show (i + 1) * 2 + 1 = i * 2 + 1 + 1 + 1 from by omega, List.set_cons_succ, List.set_cons_succ, a]
    rfl
def FoPost (w : World) (e : Ending) (w' : World) : Prop :=
  ∃ a c l, e = .returned (.slice a l.length c) ∧ w.grownBy w' none ∧ RgAt w' a l ∧ l.length ≤ 100

end Go.Proofs.Yteomllgkcolmhaa
