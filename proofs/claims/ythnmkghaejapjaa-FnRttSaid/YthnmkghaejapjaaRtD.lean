/- Clocks: the drawings. -/
import Derived.Test.YthnmkghaejapjaaRtX
import Derived.Test.YthnmkghaejapjaaDraw
import Derived.Deep.RegionWith
import Derived.LoopTactic
namespace Go.Proofs.Ythnmkghaejapjaa
open Go.RowKit

def RtPost (w : World) (r : Nat) (e : Ending) (w' : World) : Prop :=
  ∃ (h : Bool) (m v q : Int), e = .returned (.agg #[.bool h, .int .i64 m, .int .i64 v, .int .i64 q]) ∧ w.grownBy w' (some r) ∧ RdOk w' r
/-- Where a drawing stands: its reader, its result's block A, its clock's block E. -/
structure RtSt (w : World) (r A E : Nat) (h : Bool) (m v q : Int) (wr : World) : Prop where
  lr : r < w.heap.size
  la : w.heap.size ≤ A
  le : A < E
  g : w.grownBy wr (some r)
  rd : RdOk wr r
  a : Box4 wr A 25 (.bool false) (.int .i64 0) (.int .i64 0) (.int .i64 0)
  b : Box4 wr E 25 (.bool h) (.int .i64 m) (.int .i64 v) (.int .i64 q)
theorem grown_some {a b : World} {r : Nat} (h : a.grownBy b none) : a.grownBy b (some r) := ⟨h.os, h.tape, h.output, h.size, fun k hk _ => h.block k hk (by simp)⟩
theorem RtSt.step {w wr w2 : World} {r A E : Nat} {h : Bool} {m v q : Int} (k : RtSt w r A E h m v q wr) (hg : wr.grownBy w2 (some r)) (hr : RdOk w2 r) : RtSt w r A E h m v q w2 :=
  ⟨k.lr, k.la, k.le, grownBy_trans k.g hg, hr, k.a.kept hg (by have := k.lr; have := k.la; simp; omega), k.b.kept hg (by have := k.lr; have := k.la; have := k.le; simp; omega)⟩
theorem RtSt.own {w wr w2 : World} {r A E : Nat} {h : Bool} {m v q : Int} (k : RtSt w r A E h m v q wr) (hg : wr.grownBy w2 none) : RtSt w r A E h m v q w2 :=
  ⟨k.lr, k.la, k.le, grownBy_trans k.g (grown_some hg), k.rd.kept hg (by simp) (by simp), k.a.kept hg (by simp), k.b.kept hg (by simp)⟩
theorem grown_set1 {w W : World} {r : Nat} (h : w.grownBy W (some r)) {b : Nat} (hb : w.heap.size ≤ b) (i : Nat) (v : Value) : w.grownBy (W.setCell ⟨b, i, none⟩ v) (some r) :=
  ⟨h.os, h.tape, h.output, by simp [World.setCell]; exact h.size, fun k hk hne => (Below.heap_setCell _ _ _ k (by simp; omega)).trans (h.block k hk hne)⟩
theorem rd_set {W : World} {r : Nat} (h : RdOk W r) {b : Nat} (hb : r < b) (i : Nat) (v : Value) : RdOk (W.setCell ⟨b, i, none⟩ v) r := h.kept (grownBy_set W b i v) (by simp; omega) (fun k e => by cases e; exact hb)
theorem RtSt.set {w wr : World} {r A E : Nat} {h : Bool} {m v q : Int} (k : RtSt w r A E h m v q wr) (h' : Bool) (m' v' q' : Int) : RtSt w r A E h' m' v' q' (set4 wr E (.bool h') (.int .i64 m') (.int .i64 v') (.int .i64 q')) := by
  have l1 := k.lr
  have l2 := k.la
  have l3 := k.le
  exact ⟨l1, l2, l3, grown_set1 (grown_set1 (grown_set1 (grown_set1 k.g (by omega) _ _) (by omega) _ _) (by omega) _ _) (by omega) _ _, rd_set (rd_set (rd_set (rd_set k.rd (by omega) _ _) (by omega) _ _) (by omega) _ _) (by omega) _ _, k.a.other (by omega) _ _ _ _, k.b.set _ _ _ _⟩
theorem RtSt.q3 {w wr : World} {r A E : Nat} {h : Bool} {m v q : Int} (k : RtSt w r A E h m v q wr) (q' : Int) : RtSt w r A E h m v q' (wr.setCell ⟨E, 3, none⟩ (.int .i64 q')) := by
  have l1 := k.lr
  have l2 := k.la
  have l3 := k.le
  exact ⟨l1, l2, l3, grown_set1 k.g (by omega) _ _, rd_set k.rd (by omega) _ _, k.a.other1 (by omega) _ _, k.b.s3 _⟩
theorem RtSt.m1 {w wr : World} {r A E : Nat} {h : Bool} {m v q : Int} (k : RtSt w r A E h m v q wr) (m' : Int) : RtSt w r A E h m' v q (wr.setCell ⟨E, 1, none⟩ (.int .i64 m')) := by
  have l1 := k.lr
  have l2 := k.la
  have l3 := k.le
  exact ⟨l1, l2, l3, grown_set1 k.g (by omega) _ _, rd_set k.rd (by omega) _ _, k.a.other1 (by omega) _ _, k.b.s1 _⟩

theorem RtSt.fin {w wr : World} {r A E : Nat} {h : Bool} {m v q : Int} (k : RtSt w r A E h m v q wr) (y0 y1 y2 y3 : Value) : w.grownBy (set4 wr A y0 y1 y2 y3) (some r) ∧ RdOk (set4 wr A y0 y1 y2 y3) r := by
  have l1 := k.lr
  have l2 := k.la
  have l3 := k.le
  exact ⟨grown_set1 (grown_set1 (grown_set1 (grown_set1 k.g (by omega) _ _) (by omega) _ _) (by omega) _ _) (by omega) _ _, rd_set (rd_set (rd_set (rd_set k.rd (by omega) _ _) (by omega) _ _) (by omega) _ _) (by omega) _ _⟩

theorem step_at (h : Bool) (m v r ms : Int) (w : World) : Calls Try.prog 14 #[.agg #[.bool h, .int .i64 m, .int .i64 v, .int .i64 r], .int .i64 ms] w fun e w' => ∃ (h' : Bool) (m' v' r' : Int), e = .returned (.agg #[.bool h', .int .i64 m', .int .i64 v', .int .i64 r']) ∧ w.grownBy w' none := by
  obtain ⟨h', m', v', r', hv⟩ := step_form h m v r ms
  have k := rt_step_spec h m v r ms w
  rw [hv] at k
  exact k.mono fun e w' ⟨a, b⟩ => ⟨h', m', v', r', a, b⟩
theorem late_at (h : Bool) (m v r : Int) (w : World) : Calls Try.prog 18 #[.agg #[.bool h, .int .i64 m, .int .i64 v, .int .i64 r]] w fun e w' => ∃ (h' : Bool) (m' v' r' : Int), e = .returned (.agg #[.bool h', .int .i64 m', .int .i64 v', .int .i64 r']) ∧ w.grownBy w' none := by
  have k := rt_late_spec h m v r w
  unfold rtLateV at k
  split at k
  · exact k.mono fun e w' ⟨a, b⟩ => ⟨_, _, _, _, a, b⟩
  · exact k.mono fun e w' ⟨a, b⟩ => ⟨_, _, _, _, a, b⟩

set_option maxRecDepth 100000 in
set_option maxHeartbeats 4000000 in
theorem rtt_draw (r : Nat) (w : World) (h : RdOk w r) : Calls Try.prog 25 #[.pointer (some ⟨r, 0, none⟩)] w (RtPost w r) := by
  have hlt := h.lt
  have H := Lib.hid h
  clear h
  go_enter Try.func25, Try.ntmps25
  go_wp2_with fail
  refine (rt_new_spec _).mono ?_
  rintro e w1 ⟨rfl, hg⟩
  unfold rtV4
  have hA := (Box4.new w 25 (.bool false) (.int .i64 0) (.int .i64 0) (.int .i64 0)).kept hg (by simp)
  have HS0 := Lib.hid (show RtSt w r w.heap.size w1.heap.size false 0 0 1000 (w1.alloc (.cells #[.bool false, .int .i64 0, .int .i64 0, .int .i64 1000] 25)) from
    ⟨hlt, Nat.le_refl _, hA.lt, grown_some (grownBy_trans (grownBy_trans (World.grownBy_alloc _ _ _) hg) (World.grownBy_alloc _ _ _)), ((H.out.alloc _).kept hg (by simp) (by simp)).alloc _, hA.alloc _, Box4.new _ _ _ _ _ _⟩)
  clear hg hA
  go_wp2_with fail
  refine (below_any _ _ _ HS0.out.rd (by omega)).mono ?_
  rintro e w2 ⟨v, v0, v1, rfl, hg, hr⟩
  obtain ⟨j, rfl⟩ := Int.eq_ofNat_of_zero_le v0
  have hj4 : j ≤ 4 := by have : (j : Int) ≤ 4 := (by simpa using v1); omega
  have HS := Lib.hid (HS0.out.step hg hr)
  clear hg hr v0 v1
  generalize hE : w1.heap.size = E at *
  have ne1 : ¬ E = w.heap.size := by have := HS.out.le; omega
  have ne2 : ¬ w.heap.size = E := by have := HS.out.le; omega
  clear hE HS0
  go_wp2_with fail
  go_loopw [4] (fun i wr => ∃ (j : Nat) (h : Bool) (m v q : Int), j ≤ 4 ∧ i = .int .i64 (j : Nat) ∧ RtSt w r w.heap.size E h m v q wr) (fun i _ => (intOf i).toNat)
  case atStart => exact ⟨j, _, _, _, _, hj4, rfl, HS.out⟩
  case round =>
    obtain ⟨j, h, m, v, q, hj4, rfl, hst⟩ := hrel
    clear HS
    have HS := Lib.hid hst
    have c0 := hst.b.c0
    have c1 := hst.b.c1
    have c2 := hst.b.c2
    have c3 := hst.b.c3
    clear hst
    by_cases h0 : j = 0
    · subst h0
      clear c0 c1 c2 c3
      go_wp2_with fail
      refine (below_any _ _ _ HS.out.rd (by omega)).mono ?_
      rintro e w3 ⟨u, v0, v1, rfl, hg, hr⟩
      have HS2 := Lib.hid (HS.out.step hg hr)
      have c0 := HS2.out.b.c0
      have c1 := HS2.out.b.c1
      have c2 := HS2.out.b.c2
      have c3 := HS2.out.b.c3
      have f1 := HS2.out.b.f0 1
      have f3 := HS2.out.b.f0 3
      have z0 := HS2.out.a.c0
      have z1 := HS2.out.a.c1
      have z2 := HS2.out.a.c2
      have z3 := HS2.out.a.c3
      have g0 := HS2.out.a.f0 0
      have g1 := HS2.out.a.f0 1
      have g2 := HS2.out.a.f0 2
      have g3 := HS2.out.a.f0 3
      clear hg hr v0 v1
      go_wp2_with fail
      · refine (off_any _ _ _ _ HS2.out.rd (by omega) (by omega) (by omega)).mono ?_
        rintro e w4 ⟨p, hp, rfl, hg, hr⟩
        have HS3 := Lib.hid (HS2.out.step hg hr)
        have HS4 := Lib.hid (HS3.out.q3 p)
        clear hg hr hp c0 c1 c2 c3 f1 f3 z0 z1 z2 z3 g0 g1 g2 g3
        have c0 := HS3.out.b.c0
        have c1 := HS3.out.b.c1
        have c2 := HS3.out.b.c2
        have c3 := HS3.out.b.c3
        have f1 := HS3.out.b.f0 1
        have f3 := HS3.out.b.f0 3
        have z0 := HS3.out.a.c0
        have g0 := HS3.out.a.f0 0
        have z1 := HS3.out.a.c1
        have g1 := HS3.out.a.f0 1
        have z2 := HS3.out.a.c2
        have g2 := HS3.out.a.f0 2
        have z3 := HS3.out.a.c3
        have g3 := HS3.out.a.f0 3
        have y0 := HS4.out.a.c0
        have x0 := HS4.out.a.f0 0
        have t0 := HS4.out.b.c0
        have y1 := HS4.out.a.c1
        have x1 := HS4.out.a.f0 1
        have t1 := HS4.out.b.c1
        have y2 := HS4.out.a.c2
        have x2 := HS4.out.a.f0 2
        have t2 := HS4.out.b.c2
        have y3 := HS4.out.a.c3
        have x3 := HS4.out.a.f0 3
        have t3 := HS4.out.b.c3
        go_wp2_with fail
        exact bodyPost_ret (v := .agg #[.bool h, .int .i64 m, .int .i64 v, .int .i64 p]) (by simp [results, Try.results25, go_sem, z0, z1, z2, z3]) rfl ⟨h, m, v, p, rfl, HS4.out.fin _ _ _ _⟩
      · refine (off_any _ _ _ _ HS2.out.rd (by omega) (by omega) (by omega)).mono ?_
        rintro e w4 ⟨p, hp, rfl, hg, hr⟩
        have HS3 := Lib.hid (HS2.out.step hg hr)
        have HS4 := Lib.hid (HS3.out.m1 p)
        clear hg hr hp c0 c1 c2 c3 f1 f3 z0 z1 z2 z3 g0 g1 g2 g3
        have c0 := HS3.out.b.c0
        have c1 := HS3.out.b.c1
        have c2 := HS3.out.b.c2
        have c3 := HS3.out.b.c3
        have f1 := HS3.out.b.f0 1
        have f3 := HS3.out.b.f0 3
        have z0 := HS3.out.a.c0
        have g0 := HS3.out.a.f0 0
        have z1 := HS3.out.a.c1
        have g1 := HS3.out.a.f0 1
        have z2 := HS3.out.a.c2
        have g2 := HS3.out.a.f0 2
        have z3 := HS3.out.a.c3
        have g3 := HS3.out.a.f0 3
        have y0 := HS4.out.a.c0
        have x0 := HS4.out.a.f0 0
        have t0 := HS4.out.b.c0
        have y1 := HS4.out.a.c1
        have x1 := HS4.out.a.f0 1
        have t1 := HS4.out.b.c1
        have y2 := HS4.out.a.c2
        have x2 := HS4.out.a.f0 2
        have t2 := HS4.out.b.c2
        have y3 := HS4.out.a.c3
        have x3 := HS4.out.a.f0 3
        have t3 := HS4.out.b.c3
        go_wp2_with fail
        exact bodyPost_ret (v := .agg #[.bool h, .int .i64 p, .int .i64 v, .int .i64 q]) (by simp [results, Try.results25, go_sem, z0, z1, z2, z3]) rfl ⟨h, p, v, q, rfl, HS4.out.fin _ _ _ _⟩
      · exact bodyPost_ret (v := .agg #[.bool h, .int .i64 m, .int .i64 v, .int .i64 q]) (by simp [results, Try.results25, go_sem, z0, z1, z2, z3]) rfl ⟨h, m, v, q, rfl, HS2.out.fin _ _ _ _⟩
    · obtain ⟨n, rfl⟩ : ∃ n, j = n + 1 := ⟨j - 1, by omega⟩
      clear h0
      have f0 := HS.out.b.f0 0
      have f1 := HS.out.b.f0 1
      have f2 := HS.out.b.f0 2
      have f3 := HS.out.b.f0 3
      go_wp2_with fail
      go_region_with (first | (go_at_call 32; refine (below_any _ _ _ ?_ (by omega)).mono ?_; exact HS.out.rd; rintro e w3 ⟨u, v0, v1, rfl, hg, hr⟩; have HS2 := Lib.hid (HS.out.step (by first | exact hg | exact grownBy_trans grownBy_drew hg) hr); clear hg hr v0 v1; have d0 := HS2.out.b.c0; have d1 := HS2.out.b.c1; have d2 := HS2.out.b.c2; have d3 := HS2.out.b.c3) | (go_at_call 14; refine (step_at _ _ _ _ _ _).mono ?_; rintro e w4 ⟨h', m', v', q', rfl, hg⟩; have HS3 := Lib.hid (HS2.out.own (by first | exact hg | exact grownBy_trans grownBy_drew hg)); clear hg; have b0 := HS3.out.b.c0; have b1 := HS3.out.b.c1; have b2 := HS3.out.b.c2; have b3 := HS3.out.b.c3; have e0 := HS3.out.b.f0 0; have e1 := HS3.out.b.f0 1; have e2 := HS3.out.b.f0 2; have e3 := HS3.out.b.f0 3))
      all_goals
        have HS4 := Lib.hid (HS3.out.set h' m' v' q')
        go_wp2_with fail
        refine (once_any _ _ _ HS4.out.rd (by omega) (by omega)).mono ?_
        rintro e w5 ⟨bb, rfl, hg, hr⟩
        have HS5 := Lib.hid (HS4.out.step hg hr)
        clear hg hr
        cases bb
        · go_wp2_with fail
          go_roundw
          case rel => exact ⟨n, _, _, _, _, by omega, by go_num, HS5.out⟩
          case measure => first | (simp [intOf]; done) | (simp [intOf]; omega)
        · have k0 := HS5.out.b.c0
          have k1 := HS5.out.b.c1
          have k2 := HS5.out.b.c2
          have k3 := HS5.out.b.c3
          go_wp2_with fail
          refine (late_at _ _ _ _ _).mono ?_
          rintro e w6 ⟨hh, mm, vv, qq, rfl, hg⟩
          have HS6 := Lib.hid (HS5.out.own hg)
          have HS7 := Lib.hid (HS6.out.set hh mm vv qq)
          clear hg k0 k1 k2 k3
          have k0 := HS6.out.b.c0
          have k1 := HS6.out.b.c1
          have k2 := HS6.out.b.c2
          have k3 := HS6.out.b.c3
          have l0 := HS6.out.b.f0 0
          have l1 := HS6.out.b.f0 1
          have l2 := HS6.out.b.f0 2
          have l3 := HS6.out.b.f0 3
          go_wp2_with fail
          go_roundw
          case rel => exact ⟨n, _, _, _, _, by omega, by go_num, HS7.out⟩
          case measure => first | (simp [intOf]; done) | (simp [intOf]; omega)

end Go.Proofs.Ythnmkghaejapjaa
