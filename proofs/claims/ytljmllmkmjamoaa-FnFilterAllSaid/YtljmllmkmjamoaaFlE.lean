/- The drawings of filters and of samples. -/
import Derived.Test.YtljmllmkmjamoaaFlD
import Derived.Test.YtljmllmkmjamoaaOffW
import Derived.Deep.RegionWith
namespace Go.Proofs.Ytljmllmkmjamoaa
open Go.RowKit

theorem own_r {W W' : World} {B c r : Nat} {a : Option Addr} {l : List Rg} (h : OwnRg W B a c l) (hB : r < B) (hg : W.grownBy W' (some r)) : OwnRg W' B a c l := by
  refine h.kept hg ?_
  cases hv : Value.ownBlock (.slice a l.length c) with
  | none => exact .inl rfl
  | some g =>
    refine .inr fun e => ?_
    have := (h.lt g hv).1
    simp at e
    omega
theorem g_ext {w a b : World} {r : Nat} (h : w.grownBy a (some r)) (k : a.grownBy b none) : w.grownBy b (some r) := grownBy_trans h (gE k)
theorem rd_ext {w a : World} {r : Nat} (h : RdOk w r) (k : w.grownBy a none) : RdOk a r := h.kept k (by simp) (by simp)

theorem own_setB {w : World} {B D o c : Nat} {a : Option Addr} {v : Value} {l : List Rg} (h : OwnRg w B a c l) (hne : D < B) : OwnRg (w.setCell ⟨D, o, none⟩ v) B a c l := by
  refine h.kept (grownBy_set w D o v) ?_
  cases hv : Value.ownBlock (.slice a l.length c) with
  | none => exact .inl rfl
  | some g =>
    refine .inr fun e => ?_
    have := (h.lt g hv).1
    simp at e
    omega

def SmPost (w : World) (r : Nat) (e : Ending) (w' : World) : Prop :=
  ∃ a c l, e = .returned (.slice a l.length c) ∧ w.grownBy w' (some r) ∧ RdOk w' r ∧ OwnRg w' w.heap.size a c l ∧ l.length ≤ 100
def SmRel (w : World) (r : Nat) (v t i : Value) (wr : World) : Prop :=
  ∃ (a : Option Addr) (c : Nat) (l : List Rg) (x k : Int), v = .slice a l.length c ∧ t = .int .i64 x ∧ i = .int .i64 k ∧ 0 ≤ k ∧ k ≤ 6 ∧ 0 ≤ x ∧ x + 29 * k ≤ 200 ∧ w.grownBy wr (some r) ∧ RdOk wr r ∧ OwnRg wr w.heap.size a c l ∧ l.length ≤ 100

set_option maxRecDepth 100000 in
set_option maxHeartbeats 1500000 in
theorem samples_draw (r : Nat) (w : World) (h : RdOk w r) : Calls Try.prog 10 #[.pointer (some ⟨r, 0, none⟩)] w (SmPost w r) := by
  have hrlt : r < w.heap.size := h.lt
  have H0 := Lib.hid (And.intro (World.grownBy_alloc w (.cells #[] 26) (some r)) (And.intro (h.alloc (.cells #[] 26)) (row_empty w 26 2 w.heap.size (Nat.le_refl _))))
  clear h
  go_enter Try.func10, Try.ntmps10
  go_wp2_with fail
  generalize w.alloc (.cells #[] 26) = w0 at *
  refine (below_any _ _ _ H0.out.2.1 (by omega)).mono ?_
  rintro e w1 ⟨n, n0, n1, rfl, hg, hr⟩
  rw [if_neg (by omega)] at n1
  have H1 := Lib.hid (And.intro (grownBy_trans H0.out.1 hg) (And.intro hr (own_r (l := []) H0.out.2.2 hrlt hg)))
  clear hg hr
  go_wp2_with fail
  go_loopw [3, 4, 5] (fun v t i wr => SmRel w r v t i wr) (fun _ _ i _ => (intOf i).toNat)
  case atStart => exact ⟨_, _, [], 0, n, rfl, rfl, rfl, n0, by omega, by omega, by omega, H1.out.1, H1.out.2.1, H1.out.2.2, by simp⟩
  case round =>
    clear H1 H0 n0 n1
    obtain ⟨a, c, l, x, k, rfl, rfl, rfl, k0, k1, x0, x1, hg, hr, ho, hl⟩ := hrel
    have HS := Lib.hid (And.intro hg (And.intro hr ho))
    clear hg hr ho
    by_cases hk : 0 < k
    · have hwk : IntKind.i64.wrap (k - 1) = k - 1 := IntWalk.i64_in _ (by omega)
      go_wp2_with fail
      refine (below_any _ _ _ HS.out.2.1 (by omega)).mono ?_
      rintro e w2 ⟨v1, a0, a1, rfl, hg, hr⟩
      rw [if_neg (by omega)] at a1
      have H2 := Lib.hid (And.intro (grownBy_trans HS.out.1 hg) (And.intro hr (own_r HS.out.2.2 hrlt hg)))
      clear hg hr
      have hwx : IntKind.i64.wrap (x + v1) = x + v1 := IntWalk.i64_in _ (by omega)
      go_wp2_with fail
      refine (below_any _ _ _ H2.out.2.1 (by omega)).mono ?_
      rintro e w3 ⟨v2, b0, b1, rfl, hg, hr⟩
      rw [if_neg (by omega)] at b1
      have H3 := Lib.hid (And.intro (grownBy_trans H2.out.1 hg) (And.intro hr (own_r H2.out.2.2 hrlt hg)))
      clear hg hr
      go_wp2_with fail
      refine (below_any _ _ _ H3.out.2.1 (by omega)).mono ?_
      rintro e w4 ⟨v3, d0, d1, rfl, hg, hr⟩
      rw [if_neg (by omega)] at d1
      have H4 := Lib.hid (And.intro (grownBy_trans H3.out.1 hg) (And.intro hr (own_r H3.out.2.2 hrlt hg)))
      clear hg hr
      have hwd : IntKind.i64.wrap (5 + v3) = 5 + v3 := IntWalk.i64_in _ (by omega)
      go_wp2_with fail
      refine (add_spec _ _ _ _ _ _ _ (rg_own H4.out.2.2) (by omega)).mono ?_
      rintro e w5 ⟨a5, c5, rfl, hg, ho⟩
      have H5 := Lib.hid (And.intro (g_ext H4.out.1 hg) (And.intro (rd_ext H4.out.2.1 hg) (And.intro (own_kept H4.out.2.2 hg) (own_base ho H4.out.1.size))))
      have hL := addL_len l (x + v1, v2) (5 + v3)
      clear hg ho
      generalize addOk l (x + v1, v2) (5 + v3) = D at *
      generalize addL l (x + v1, v2) (5 + v3) = L at *
      cases D
      · go_wp2_with fail
        go_roundw
        case rel => exact ⟨a, c, l, x + v1, k - 1, rfl, rfl, by first | rfl | go_num, by omega, by omega, by omega, by omega, H5.out.1, H5.out.2.1, H5.out.2.2.1, hl⟩
        case measure => simp [intOf]; omega
      · go_wp2_with fail
        go_roundw
        case rel => exact ⟨a5, c5, L, x + v1, k - 1, rfl, rfl, by first | rfl | go_num, by omega, by omega, by omega, by omega, H5.out.1, H5.out.2.1, H5.out.2.2.2, hL⟩
        case measure => simp [intOf]; omega
    · go_wp2_with fail
      go_ret
      exact ⟨a, c, l, rfl, HS.out.1, HS.out.2.1, HS.out.2.2, hl⟩

/-- Where the drawing of a sample stands. -/
structure Sd (w : World) (r : Nat) (X : Nat) (t q : Int) (W : World) : Prop where
  g : w.grownBy W (some r)
  rd : RdOk W r
  res : Bx W w.heap.size 26 #[.int .i64 0, .int .i64 0]
  x : Bx W X 26 #[.int .i64 t, .int .i64 q]
  lt : w.heap.size < X
theorem Sd.step {w W W' : World} {r X : Nat} {t q : Int} (h : Sd w r X t q W) (hr : r < w.heap.size) (hg : W.grownBy W' (some r)) (hd : RdOk W' r) : Sd w r X t q W' :=
  ⟨grownBy_trans h.g hg, hd, h.res.kept hg (by simp; omega), h.x.kept hg (by have := h.lt; simp; omega), h.lt⟩
theorem Sd.drew {w W : World} {r X : Nat} {t q : Int} (h : Sd w r X t q W) : Sd w r X t q W.drew := ⟨g_ext h.g grownBy_drew, rd_ext h.rd grownBy_drew, h.res.keep grownBy_drew, h.x.keep grownBy_drew, h.lt⟩
theorem gSx {w W : World} {r : Nat} (h : w.grownBy W (some r)) {b : Nat} (hb : w.heap.size ≤ b) (i : Nat) (v : Value) : w.grownBy (W.setCell ⟨b, i, none⟩ v) (some r) := gSr h hb i v
theorem Sd.set0 {w W : World} {r X : Nat} {t q : Int} (h : Sd w r X t q W) (hr : r < w.heap.size) (y : Int) : Sd w r X y q (W.setCell ⟨X, 0, none⟩ (.int .i64 y)) :=
  ⟨gSr h.g (Nat.le_of_lt h.lt) 0 _, h.rd.kept (grownBy_set W X 0 _) (by have := h.lt; simp; omega) (by intro k e; have := h.lt; simp at e; omega), h.res.other (by have := h.lt; omega) 0 _, h.x.s 0 _, h.lt⟩
theorem Sd.set1 {w W : World} {r X : Nat} {t q : Int} (h : Sd w r X t q W) (hr : r < w.heap.size) (y : Int) : Sd w r X t y (W.setCell ⟨X, 1, none⟩ (.int .i64 y)) :=
  ⟨gSr h.g (Nat.le_of_lt h.lt) 1 _, h.rd.kept (grownBy_set W X 1 _) (by have := h.lt; simp; omega) (by intro k e; have := h.lt; simp at e; omega), h.res.other (by have := h.lt; omega) 1 _, h.x.s 1 _, h.lt⟩

def SpPost (w : World) (r : Nat) (e : Ending) (w' : World) : Prop :=
  ∃ t q : Int, e = .returned (.agg #[.int .i64 t, .int .i64 q]) ∧ w.grownBy w' (some r) ∧ RdOk w' r
theorem Sd.fin {w W : World} {r X : Nat} {t q : Int} (h : Sd w r X t q W) (hr : r < w.heap.size) : SpPost w r (.returned (.agg #[.int .i64 t, .int .i64 q])) ((W.setCell ⟨w.heap.size, 0, none⟩ (.int .i64 t)).setCell ⟨w.heap.size, 1, none⟩ (.int .i64 q)) :=
  ⟨t, q, rfl, gSr (gSr h.g (Nat.le_refl _) 0 _) (Nat.le_refl _) 1 _, h.rd.kept (grownBy_trans (grownBy_set W w.heap.size 0 (.int .i64 t)) (grownBy_set _ w.heap.size 1 (.int .i64 q))) (by simp; omega) (by intro k e; simp at e; omega)⟩

set_option maxRecDepth 100000 in
set_option maxHeartbeats 3000000 in
theorem sample_draw (r B : Nat) (a : Option Addr) (c : Nat) (l : List Rg) (w : World) (h : RdOk w r) (ho : OwnRg w B a c l) (hB : r < B) (hl : l.length ≤ 1000) : Calls Try.prog 11 #[.pointer (some ⟨r, 0, none⟩), .slice a l.length c] w (SpPost w r) := by
  have hrlt : r < w.heap.size := h.lt
  have hZ := Bx.new w 26 #[.int .i64 0, .int .i64 0]
  have gZ := World.grownBy_alloc w (.cells #[.int .i64 0, .int .i64 0] 26) none
  have H0 := Lib.hid (And.intro (gE (r := r) gZ) (And.intro (h.alloc (.cells #[.int .i64 0, .int .i64 0] 26)) (And.intro (own_kept ho gZ) hZ)))
  clear h ho hZ gZ
  go_enter Try.func11, Try.ntmps11
  go_wp2_with fail
  generalize w.alloc (.cells #[.int .i64 0, .int .i64 0] 26) = w0 at *
  refine (below_any _ _ _ H0.out.2.1 (by omega)).mono ?_
  rintro e w1 ⟨v1, a0, a1, rfl, hg, hr⟩
  have H1 := Lib.hid (And.intro (grownBy_trans H0.out.1 hg) (And.intro hr (And.intro (own_r H0.out.2.2.1 hB hg) (H0.out.2.2.2.kept hg (by simp; omega)))))
  clear hg hr a0 a1
  go_wp2_with fail
  refine (below_any _ _ _ H1.out.2.1 (by omega)).mono ?_
  rintro e w2 ⟨v2, b0, b1, rfl, hg, hr⟩
  have H2 := Lib.hid (And.intro (grownBy_trans H1.out.1 hg) (And.intro hr (And.intro (own_r H1.out.2.2.1 hB hg) (H1.out.2.2.2.kept hg (by simp; omega)))))
  clear hg hr b0 b1
  have hX := Bx.new w2 26 #[.int .i64 v1, .int .i64 v2]
  have gX := World.grownBy_alloc w2 (.cells #[.int .i64 v1, .int .i64 v2] 26) none
  have HD := Lib.hid (show Sd w r w2.heap.size v1 v2 (w2.alloc (.cells #[.int .i64 v1, .int .i64 v2] 26)) from ⟨g_ext H2.out.1 gX, rd_ext H2.out.2.1 gX, H2.out.2.2.2.keep gX, hX, H2.out.2.2.2.lt⟩)
  have HO := Lib.hid (own_kept H2.out.2.2.1 gX)
  clear hX gX
  rcases Nat.eq_zero_or_pos l.length with h0 | h0
  · obtain rfl := List.length_eq_zero_iff.mp h0
    clear h0
    go_wp2_with fail
    refine (once_any _ _ _ HD.out.rd (by omega) (by omega)).mono ?_
    rintro e w6 ⟨o, rfl, hg, hr⟩
    have H6 := Lib.hid (HD.out.step hrlt hg hr)
    clear hg hr HD
    cases o
    · have x0 := H6.out.x.c 0 rfl
      have x1 := H6.out.x.c 1 rfl
      have r0 := H6.out.res.c 0 rfl
      have r1 := H6.out.res.c 1 rfl
      have f0 := H6.out.res.f 0
      have f1 := H6.out.res.f 1
      go_wp2_with fail
      exact bodyPost_ret (v := .agg #[.int .i64 v1, .int .i64 v2]) (by simp [results, Try.results11, go_sem, r0, r1]) rfl (H6.out.fin hrlt)
    · go_wp2_with fail
      refine (off_w _ _ _ _ H6.out.rd ⟨by decide, by decide⟩ (wf_of (by decide) (by decide))).mono ?_
      rintro e w7 ⟨y, hy, rfl, hg, hr⟩
      have H7 := Lib.hid (H6.out.step hrlt hg hr)
      have H8 := Lib.hid (H7.out.set1 hrlt y)
      clear hg hr hy H6
      have z0 := H7.out.x.c 0 rfl
      have z1 := H7.out.x.c 1 rfl
      have zf := H7.out.x.f 1
      have x0 := H8.out.x.c 0 rfl
      have x1 := H8.out.x.c 1 rfl
      have r0 := H8.out.res.c 0 rfl
      have r1 := H8.out.res.c 1 rfl
      have f0 := H8.out.res.f 0
      have f1 := H8.out.res.f 1
      go_wp2_with fail
      exact bodyPost_ret (v := .agg #[.int .i64 v1, .int .i64 y]) (by simp [results, Try.results11, go_sem, r0, r1]) rfl (H8.out.fin hrlt)
  · obtain ⟨k, hk⟩ : ∃ k, l.length = k + 1 := ⟨l.length - 1, by omega⟩
    have hk0 : (0 : Int) ≤ (k : Int) := by omega
    have hk2 : (0 : Int) < (l.length : Int) := by omega
    have hk3 : (k : Int) < (l.length : Int) := by omega
    have hk4 : k < l.length := by omega
    have hk5 : IntKind.i64.wrap (k : Int) = k := IntWalk.i64_in _ (by omega)
    have hk6 : IntKind.i64.wrap ((l.length : Int) - 1) = k := by rw [IntWalk.i64_in _ (by omega)]; omega
    have HKL := Lib.hid hk
    clear hk
    go_wp2_with fail
    generalize w2.alloc (.cells #[.int .i64 v1, .int .i64 v2] 26) = w3 at *
    obtain ⟨b, off, rfl, d0⟩ := fa_last (rg_own HO.out) k hk4
    generalize l[k] = z at *
    obtain ⟨tz, rz⟩ := z
    dsimp only at d0
    have x0 := HD.out.x.c 0 rfl
    have x1 := HD.out.x.c 1 rfl
    have xf := HD.out.x.f 0
    have hbr : b ≠ r := by
      rcases HO.out.2 with ⟨hv, hh⟩ | ⟨g, cap, cur, hv, hb, _⟩
      · omega
      · simp at hv
        obtain ⟨⟨rfl, _⟩, _⟩ := hv
        omega
    go_region_with (go_at_call 20; refine (below_any _ _ _ ?_ (by omega)).mono ?_; (first | exact HD.out.drew.rd | exact HD.out.rd); rintro e w5 ⟨v3, c0, c1, rfl, hg, hr⟩; have HD5 := Lib.hid (HD.out.drew.step hrlt hg hr); have y0 := HD5.out.x.c 0 rfl; have y1 := HD5.out.x.c 1 rfl; have yf := HD5.out.x.f 0; have e0 := hg.cell (a := ⟨b, off + k * 2, none⟩) (v := .int .i64 tz) (by first | assumption | (go_simp; done) | (simp [*]; done)) (by simp; omega); clear hg hr c0 c1)
    all_goals
      have HD := Lib.hid (HD5.out.set0 hrlt (IntKind.i64.wrap (IntKind.i64.wrap (v1 + tz) - v3)))
      generalize IntKind.i64.wrap (IntKind.i64.wrap (v1 + tz) - v3) = tt at *
      generalize w5.setCell ⟨w2.heap.size, 0, none⟩ (.int .i64 tt) = w8 at *
      go_wp2_with fail
      refine (once_any _ _ _ HD.out.rd (by omega) (by omega)).mono ?_
      rintro e w6 ⟨o, rfl, hg, hr⟩
      have H6 := Lib.hid (HD.out.step hrlt hg hr)
      clear hg hr HD
      cases o
      · have x0 := H6.out.x.c 0 rfl
        have x1 := H6.out.x.c 1 rfl
        have r0 := H6.out.res.c 0 rfl
        have r1 := H6.out.res.c 1 rfl
        have f0 := H6.out.res.f 0
        have f1 := H6.out.res.f 1
        go_wp2_with fail
        exact bodyPost_ret (v := .agg #[.int .i64 tt, .int .i64 v2]) (by simp [results, Try.results11, go_sem, r0, r1]) rfl (H6.out.fin hrlt)
      · go_wp2_with fail
        refine (off_w _ _ _ _ H6.out.rd ⟨by decide, by decide⟩ (wf_of (by decide) (by decide))).mono ?_
        rintro e w7 ⟨y, hy, rfl, hg, hr⟩
        have H7 := Lib.hid (H6.out.step hrlt hg hr)
        have H8 := Lib.hid (H7.out.set1 hrlt y)
        clear hg hr hy H6
        have z0 := H7.out.x.c 0 rfl
        have z1 := H7.out.x.c 1 rfl
        have zf := H7.out.x.f 1
        have x0 := H8.out.x.c 0 rfl
        have x1 := H8.out.x.c 1 rfl
        have r0 := H8.out.res.c 0 rfl
        have r1 := H8.out.res.c 1 rfl
        have f0 := H8.out.res.f 0
        have f1 := H8.out.res.f 1
        go_wp2_with fail
        exact bodyPost_ret (v := .agg #[.int .i64 tt, .int .i64 y]) (by simp [results, Try.results11, go_sem, r0, r1]) rfl (H8.out.fin hrlt)

def DfaPost (w : World) (e : Ending) (w' : World) : Prop :=
  ∃ a c l, ∃ t q d : Int, e = .returned (.tuple #[.slice a l.length c, .agg #[.int .i64 t, .int .i64 q], .int .i64 d]) ∧ w.grownBy w' none ∧ RgAt w' a l ∧ l.length ≤ 100

set_option maxRecDepth 100000 in
set_option maxHeartbeats 2000000 in
theorem draw_fa (a : Option Addr) (n c : Nat) (w : World) (h : CodeIn w a n) : Calls Try.prog 5 #[.slice a n c] w (DfaPost w) := by
  have H := Lib.hid (h.kept (World.grownBy_alloc w (.cells #[.int .i64 0, .int .i64 0] 26) none))
  have HZ := Lib.hid (And.intro (Bx.new w 26 #[.int .i64 0, .int .i64 0]) (World.grownBy_alloc w (.cells #[.int .i64 0, .int .i64 0] 26) none))
  clear h
  go_enter Try.func5, Try.ntmps5
  go_wp2_with fail
  generalize w.alloc (.cells #[.int .i64 0, .int .i64 0] 26) = w0 at *
  have hw0 : w.heap.size < w0.heap.size := HZ.out.1.lt
  refine (open_any _ _ _ _ H.out).mono ?_
  rintro e w1 ⟨rfl, hg, hr⟩
  have H1 := Lib.hid (And.intro (grownBy_trans HZ.out.2 hg) (And.intro hr (HZ.out.1.keep hg)))
  clear hg hr
  go_wp2_with fail
  refine (samples_draw _ _ H1.out.2.1).mono ?_
  rintro e w2 ⟨al, cl, l, rfl, hg, hr, ho, hl⟩
  have hsz := H1.out.2.1.lt
  have H2 := Lib.hid (And.intro (grownBy_new H1.out.1 hg (by omega)) (And.intro hr (And.intro (H1.out.2.2.kept hg (by simp; omega)) ho)))
  clear hg hr ho
  go_wp2_with fail
  refine (sample_draw _ _ _ _ _ _ H2.out.2.1 H2.out.2.2.2 hsz (by omega)).mono ?_
  rintro e w3 ⟨t, q, rfl, hg, hr⟩
  have hX := Bx.new w3 26 #[.int .i64 t, .int .i64 q]
  have gX := World.grownBy_alloc w3 (.cells #[.int .i64 t, .int .i64 q] 26) none
  have H3 := Lib.hid (And.intro (grownBy_trans (grownBy_new H2.out.1 hg (by omega)) gX) (And.intro (rd_ext hr gX) (And.intro ((H2.out.2.2.1.kept hg (by simp; omega)).keep gX) (And.intro (own_kept (own_r H2.out.2.2.2 hsz hg) gX) hX))))
  have hsz3 : w0.heap.size < w3.heap.size := hr.lt
  clear hg hr hX gX
  go_wp2_with fail
  generalize w3.alloc (.cells #[.int .i64 t, .int .i64 q] 26) = w4 at *
  have x0 := H3.out.2.2.2.2.c 0 rfl
  have x1 := H3.out.2.2.2.2.c 1 rfl
  have r0 := H3.out.2.2.1.c 0 rfl
  have r1 := H3.out.2.2.1.c 1 rfl
  have f0 := H3.out.2.2.1.f 0
  have f1 := H3.out.2.2.1.f 1
  have lr := H3.out.2.2.1.lt
  go_region_with (go_at_call 12; refine (off_w _ _ _ _ ?_ ⟨by decide, by decide⟩ (wf_of (by decide) (by decide))).mono ?_; (first | exact rd_ext H3.out.2.1 grownBy_drew | exact H3.out.2.1); rintro e w5 ⟨d, hd, rfl, hg, hr⟩; have hgd : w4.grownBy w5 (some w0.heap.size) := (by first | exact hg | exact grownBy_trans grownBy_drew hg); have HX5 := Lib.hid (H3.out.2.2.2.2.kept hgd (by simp; omega)); have HR5 := Lib.hid (H3.out.2.2.1.kept hgd (by simp; omega)); have HG5 := Lib.hid (grownBy_new H3.out.1 hgd (by omega)); have HO5 := Lib.hid (own_r H3.out.2.2.2.1 hsz hgd); clear hg hr hd hgd; have y0 := HX5.out.c 0 rfl; have y1 := HX5.out.c 1 rfl; have s0 := HR5.out.c 0 rfl; have s1 := HR5.out.c 1 rfl; have sf0 := HR5.out.f 0; have sf1 := HR5.out.f 1)
  all_goals
    go_wp2_with fail
    refine bodyPost_ret (v := .tuple #[.slice al l.length cl, .agg #[.int .i64 t, .int .i64 q], .int .i64 d]) (by simp [results, Try.results5, go_sem, s0, s1]) rfl ⟨al, cl, l, t, q, d, rfl, gS (gS HG5.out (Nat.le_refl _) 0 _) (Nat.le_refl _) 1 _, ?_, hl⟩
    exact rg_own (own_setB (own_setB HO5.out (by omega)) (by omega))

theorem rgsV_set : ∀ (l : List Rg) (i : Nat) (h : i < l.length) (v : Int), (rgsV l).set (i * 2 + 1) (.int .i64 v) = rgsV (l.set i ((l[i]).1, v))
  | p :: l, 0, _, v => by simp [rgsV, rgV]
  | p :: l, i + 1, h, v => by
    have a := rgsV_set l i (by simpa using h) v
    have e : rgsV (p :: l) = .int .i64 p.1 :: .int .i64 p.2 :: rgsV l := rfl
    rw [e, show (i + 1) * 2 + 1 = i * 2 + 1 + 1 + 1 from by omega, List.set_cons_succ, List.set_cons_succ, a]
    rfl
def FoPost (w : World) (e : Ending) (w' : World) : Prop :=
  ∃ a c l, e = .returned (.slice a l.length c) ∧ w.grownBy w' none ∧ RgAt w' a l ∧ l.length ≤ 100

end Go.Proofs.Ytljmllmkmjamoaa
