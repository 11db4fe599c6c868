/- Clocks: behind some measures (one): the program's range over a sequence. -/
import Derived.Test.YthnmkghaejapjaaRtV
namespace Go.Proofs.Ythnmkghaejapjaa
open Go.RowKit Go.Shelf
attribute [local go_sem] Oper.semAt_some

/-- A block of four cells, in no use as a row. -/
def Box4 (W : World) (B : Nat) (t : TypeId) (x0 x1 x2 x3 : Value) : Prop := W.heap[B]? = some (.cells #[x0, x1, x2, x3] t (0, 0))
theorem Box4.lt {W : World} {B : Nat} {t : TypeId} {x0 x1 x2 x3 : Value} (h : Box4 W B t x0 x1 x2 x3) : B < W.heap.size := (Array.getElem?_eq_some_iff.1 h).1
theorem Box4.c0 {W : World} {B : Nat} {t : TypeId} {x0 x1 x2 x3 : Value} (h : Box4 W B t x0 x1 x2 x3) : W.cell? ⟨B, 0, none⟩ = some x0 := by simp [World.cell?, show W.heap[B]? = _ from h]
theorem Box4.c1 {W : World} {B : Nat} {t : TypeId} {x0 x1 x2 x3 : Value} (h : Box4 W B t x0 x1 x2 x3) : W.cell? ⟨B, 1, none⟩ = some x1 := by simp [World.cell?, show W.heap[B]? = _ from h]
theorem Box4.c2 {W : World} {B : Nat} {t : TypeId} {x0 x1 x2 x3 : Value} (h : Box4 W B t x0 x1 x2 x3) : W.cell? ⟨B, 2, none⟩ = some x2 := by simp [World.cell?, show W.heap[B]? = _ from h]
theorem Box4.c3 {W : World} {B : Nat} {t : TypeId} {x0 x1 x2 x3 : Value} (h : Box4 W B t x0 x1 x2 x3) : W.cell? ⟨B, 3, none⟩ = some x3 := by simp [World.cell?, show W.heap[B]? = _ from h]
theorem Box4.f0 {W : World} {B : Nat} {t : TypeId} {x0 x1 x2 x3 : Value} (h : Box4 W B t x0 x1 x2 x3) (i : Nat) : W.frozen? ⟨B, i, none⟩ = false := by simp [World.frozen?, show W.heap[B]? = _ from h]
theorem Box4.new (W : World) (t : TypeId) (x0 x1 x2 x3 : Value) : Box4 (W.alloc (.cells #[x0, x1, x2, x3] t)) W.heap.size t x0 x1 x2 x3 := World.alloc_heap_new W _
theorem Box4.kept {W W' : World} {row : Option Nat} {B : Nat} {t : TypeId} {x0 x1 x2 x3 : Value} (h : Box4 W B t x0 x1 x2 x3) (hg : W.grownBy W' row) (hne : some B ≠ row) : Box4 W' B t x0 x1 x2 x3 := (hg.block B h.lt hne).trans h
theorem Box4.alloc {W : World} {B : Nat} {t : TypeId} {x0 x1 x2 x3 : Value} (h : Box4 W B t x0 x1 x2 x3) (o : Obj) : Box4 (W.alloc o) B t x0 x1 x2 x3 := h.kept (World.grownBy_alloc W o none) (by simp)
theorem Box4.not_row {W : World} {B : Nat} {t : TypeId} {x0 x1 x2 x3 : Value} {row : Option Nat} (h : Box4 W B t x0 x1 x2 x3) (hr : ∀ r, row = some r → ∃ o : Obj, W.heap[r]? = some o ∧ o.isCells = false) : some B ≠ row := by
  intro e
  obtain ⟨o, ho, hc⟩ := hr B e.symm
  rw [show W.heap[B]? = _ from h] at ho
  cases ho
  cases hc

theorem Box4.s0 {W : World} {B : Nat} {t : TypeId} {x0 x1 x2 x3 : Value} (h : Box4 W B t x0 x1 x2 x3) (y : Value) : Box4 (W.setCell ⟨B, 0, none⟩ y) B t y x1 x2 x3 := by
  obtain ⟨hlt, hk⟩ := Array.getElem?_eq_some_iff.1 h
  show (W.heap.modify B _)[B]? = _
  rw [Array.getElem?_eq_getElem (by rw [Array.size_modify]; exact hlt), Array.getElem_modify_self, hk]
  rfl
theorem Box4.s1 {W : World} {B : Nat} {t : TypeId} {x0 x1 x2 x3 : Value} (h : Box4 W B t x0 x1 x2 x3) (y : Value) : Box4 (W.setCell ⟨B, 1, none⟩ y) B t x0 y x2 x3 := by
  obtain ⟨hlt, hk⟩ := Array.getElem?_eq_some_iff.1 h
  show (W.heap.modify B _)[B]? = _
  rw [Array.getElem?_eq_getElem (by rw [Array.size_modify]; exact hlt), Array.getElem_modify_self, hk]
  rfl
theorem Box4.s2 {W : World} {B : Nat} {t : TypeId} {x0 x1 x2 x3 : Value} (h : Box4 W B t x0 x1 x2 x3) (y : Value) : Box4 (W.setCell ⟨B, 2, none⟩ y) B t x0 x1 y x3 := by
  obtain ⟨hlt, hk⟩ := Array.getElem?_eq_some_iff.1 h
  show (W.heap.modify B _)[B]? = _
  rw [Array.getElem?_eq_getElem (by rw [Array.size_modify]; exact hlt), Array.getElem_modify_self, hk]
  rfl
theorem Box4.s3 {W : World} {B : Nat} {t : TypeId} {x0 x1 x2 x3 : Value} (h : Box4 W B t x0 x1 x2 x3) (y : Value) : Box4 (W.setCell ⟨B, 3, none⟩ y) B t x0 x1 x2 y := by
  obtain ⟨hlt, hk⟩ := Array.getElem?_eq_some_iff.1 h
  show (W.heap.modify B _)[B]? = _
  rw [Array.getElem?_eq_getElem (by rw [Array.size_modify]; exact hlt), Array.getElem_modify_self, hk]
  rfl
def set4 (W : World) (B : Nat) (y0 y1 y2 y3 : Value) : World := (((W.setCell ⟨B, 0, none⟩ y0).setCell ⟨B, 1, none⟩ y1).setCell ⟨B, 2, none⟩ y2).setCell ⟨B, 3, none⟩ y3
theorem Box4.set {W : World} {B : Nat} {t : TypeId} {x0 x1 x2 x3 : Value} (h : Box4 W B t x0 x1 x2 x3) (y0 y1 y2 y3 : Value) : Box4 (set4 W B y0 y1 y2 y3) B t y0 y1 y2 y3 := (((h.s0 y0).s1 y1).s2 y2).s3 y3
theorem Box4.other1 {W : World} {B : Nat} {t : TypeId} {x0 x1 x2 x3 : Value} (h : Box4 W B t x0 x1 x2 x3) {B' : Nat} (hne : B ≠ B') (i : Nat) (u : Value) : Box4 (W.setCell ⟨B', i, none⟩ u) B t x0 x1 x2 x3 := (Below.heap_setCell _ _ _ B hne).trans h
theorem Box4.other {W : World} {B : Nat} {t : TypeId} {x0 x1 x2 x3 : Value} (h : Box4 W B t x0 x1 x2 x3) {B' : Nat} (hne : B ≠ B') (y0 y1 y2 y3 : Value) : Box4 (set4 W B' y0 y1 y2 y3) B t x0 x1 x2 x3 := (((h.other1 hne 0 y0).other1 hne 1 y1).other1 hne 2 y2).other1 hne 3 y3
theorem keeps_set4 (W : World) (B : Nat) (y0 y1 y2 y3 : Value) : KeepsOthers W (set4 W B y0 y1 y2 y3) := (((KeepsOthers.setCell _ _ _).trans (KeepsOthers.setCell _ _ _)).trans (KeepsOthers.setCell _ _ _)).trans (KeepsOthers.setCell _ _ _)
theorem below_set4 {n : Nat} {A W : World} (h : Below n A W) {B : Nat} (hB : n ≤ B) (y0 y1 y2 y3 : Value) : Below n A (set4 W B y0 y1 y2 y3) := (((h.setCell (p := ⟨B, 0, none⟩) hB _).setCell (p := ⟨B, 1, none⟩) hB _).setCell (p := ⟨B, 2, none⟩) hB _).setCell (p := ⟨B, 3, none⟩) hB _

set_option maxRecDepth 100000 in
set_option maxHeartbeats 2000000 in
theorem beh_yes (h : Bool) (m v r ms : Int) (w : World) (Bs b cap : Nat) (k : rtOk h m v r = true) (hBs : Bs < w.heap.size) (hb : b < w.heap.size) (hc : w.cell? ⟨Bs, 0, none⟩ = some (.slice (some ⟨b, 0, none⟩) 1 cap)) (hv : w.cell? ⟨b, 0, none⟩ = some (.int .i64 ms)) :
    Calls Try.prog 27 #[rtV4 h m v r, .func (.func 36) #[] #[.pointer (some ⟨Bs, 0, none⟩)]] w fun e w' => e = .returned (rtStepV h m v r ms) ∧ Below w.heap.size w w' := by
  have hok := fun w => rt_ok_impl h m v r w
  rw [k] at hok
  unfold rtV4 at hok ⊢
  obtain ⟨M, hM⟩ : ∃ M, rtM h m ms = M := ⟨_, rfl⟩
  obtain ⟨V, hV⟩ : ∃ V, rtV h m v ms = V := ⟨_, rfl⟩
  obtain ⟨R, hR⟩ : ∃ R, rtR M V = R := ⟨_, rfl⟩
  refine (callsIn_wide (n := 3)).1 ?_
  refine callsIn_of_wp_marks Try.func27 rfl trivial ?_ rfl
  simp only [Try.ntmps27, List.size_toArray, List.length_cons, List.length_nil, Nat.reduceAdd, Nat.reduceSub, Array.replicate_succ, Array.replicate_zero, List.push_toArray, List.append_toArray, List.nil_append, List.cons_append]
  gi_wp2_with (refine ⟨trivial, ?_⟩; gi_at_call 15; refine (callsIn_wide.2 (hok _)).mono ?_; rintro e w' ⟨rfl, rfl⟩)
  have b0 := Box4.new w 25 (.bool h) (.int .i64 m) (.int .i64 v) (.int .i64 r)
  have b1 := Box4.new (w.alloc (.cells #[.bool h, .int .i64 m, .int .i64 v, .int .i64 r] 25)) 25 (.bool false) (.int .i64 0) (.int .i64 0) (.int .i64 0)
  rw [World.size_alloc] at b1
  have hB0 : Below w.heap.size w (((w.alloc (.cells #[.bool h, .int .i64 m, .int .i64 v, .int .i64 r] 25)).alloc (.cells #[.bool false, .int .i64 0, .int .i64 0, .int .i64 0] 25)).alloc (.cells #[.bool h, .int .i64 m, .int .i64 v, .int .i64 r] 25)) := (((Below.refl _ w).alloc (Nat.le_refl _) _).alloc (by simp) _).alloc (by simp; omega) _
  refine wpIn_rangeFunc_ownG rfl (by omega) (gf := 36) (lb := #[.pointer (some ⟨Bs, 0, none⟩)]) rfl trivial (enters_of Try.func36 (by kernel_rfl) rfl)
    (one_stops Fence.wide _ trivial rfl (by omega) Bs w.heap.size b cap ms _ (by simp; omega) hb (by simp; omega) ((hB0.cell (p := ⟨Bs, 0, none⟩) hBs).trans hc) ((hB0.cell (p := ⟨b, 0, none⟩) hb).trans hv)) belowK_t (belowK_b (by simp; omega)) (Below.refl _ _) (fun _ => rfl)
    (fun pre W => (((pre.length = 0 ∧ Box4 W w.heap.size 25 (.bool h) (.int .i64 m) (.int .i64 v) (.int .i64 r)) ∨ (pre.length = 1 ∧ inB ms 0 60000 = true ∧ Box4 W w.heap.size 25 (.bool true) (.int .i64 M) (.int .i64 V) (.int .i64 R))) ∧ Box4 W (w.heap.size + 1) 25 (.bool false) (.int .i64 0) (.int .i64 0) (.int .i64 0)) ∧ Below w.heap.size w W)
    (fun c _ W => (c = .ret ∧ inB ms 0 60000 = false ∧ Box4 W (w.heap.size + 1) 25 (.bool false) (.int .i64 0) (.int .i64 0) (.int .i64 0)) ∧ Below w.heap.size w W)
    (OwnFrom.and (Own.from (fun s A B row hs hg hr => by
      obtain ⟨⟨e1, e2⟩ | ⟨e1, e3, e2⟩, e4⟩ := hs
      · exact ⟨.inl ⟨e1, e2.kept hg (e2.not_row hr)⟩, e4.kept hg (e4.not_row hr)⟩
      · exact ⟨.inr ⟨e1, e3, e2.kept hg (e2.not_row hr)⟩, e4.kept hg (e4.not_row hr)⟩) _) (ownFrom_below (Nat.le_refl _) (by simp; omega)))
    (fun c => OwnFrom.and (Own.from (fun s A B row hs hg hr => ⟨hs.1, hs.2.1, hs.2.2.kept hg (hs.2.2.not_row hr)⟩) _) (ownFrom_below (Nat.le_refl _) (by simp; omega)))
    ⟨⟨.inl ⟨rfl, (b0.alloc _).alloc _⟩, b1.alloc _⟩, hB0⟩
    (fun _ => { tmps := #[.agg #[.bool h, .int .i64 m, .int .i64 v, .int .i64 r], .func (.func 36) #[] #[.pointer (some ⟨Bs, 0, none⟩)], .pointer (some ⟨w.heap.size, 0, none⟩), undef, .pointer (some ⟨w.heap.size + 1, 0, none⟩), .int .i64 ms, .agg #[.bool h, .int .i64 m, .int .i64 v, .int .i64 r], .bool true, .bool false, undef, .func (.func 36) #[] #[.pointer (some ⟨Bs, 0, none⟩)], .int .i64 ms, undef, undef, undef, undef, undef, undef, undef, undef], defers := [] }) ?assign ?body ?done ?stop
  case assign =>
    rintro l ⟨x, rfl⟩ W K hK
    gi_wp2
    exact hK
  case body =>
    rintro l pre x W ⟨⟨hcase, hz⟩, hB⟩ hl
    obtain ⟨hl0, hbx⟩ : pre.length = 0 ∧ Box4 W w.heap.size 25 (.bool h) (.int .i64 m) (.int .i64 v) (.int .i64 r) := by
      rcases hcase with q | q
      · exact q
      · omega
    clear hcase
    have d0 := hbx.c0
    have d1 := hbx.c1
    have d2 := hbx.c2
    have d3 := hbx.c3
    have z0 := hz.c0
    have z1 := hz.c1
    have z2 := hz.c2
    have z3 := hz.c3
    have g0 := hz.f0 0
    have g1 := hz.f0 1
    have g2 := hz.f0 2
    have g3 := hz.f0 3
    cases hin : inB ms 0 60000
    · gi_wp2_with (refine ⟨trivial, ?_⟩; gi_at_call 34; refine (CallsIn.inRound l (callsIn_wide.2 (rt_msok ms _))).mono ?_; rw [hin]; rintro e w' ⟨rfl, rfl⟩)
      exact ⟨(keeps_set4 _ _ _ _ _ _).from _, ⟨rfl, hz.set _ _ _ _⟩, below_set4 hB (by simp) _ _ _ _⟩
    · have hme := fun w => rt_meas h m v r ms M V R w k (in_of hin) hM hV hR
      unfold rtV4 at hme
      gi_wp2_with (first | (refine ⟨trivial, ?_⟩; gi_at_call 34; refine (CallsIn.inRound l (callsIn_wide.2 (rt_msok ms _))).mono ?_; rw [hin]; rintro e w' ⟨rfl, rfl⟩) | (refine ⟨trivial, ?_⟩; gi_at_call 35; refine (CallsIn.inRound l (callsIn_wide.2 (hme _))).mono ?_; rintro e w' ⟨rfl, rfl⟩; have y := (hbx.alloc (.cells #[.bool true, .int .i64 M, .int .i64 V, .int .i64 R] 25)).alloc (.cells #[.bool true, .int .i64 M, .int .i64 V, .int .i64 R] 25); have y0 := y.c0; have y1 := y.c1; have y2 := y.c2; have y3 := y.c3; have p0 := y.f0 0; have p1 := y.f0 1; have p2 := y.f0 2; have p3 := y.f0 3))
      exact ⟨(((KeepsOthers.alloc _ _).trans (KeepsOthers.alloc _ _)).trans (keeps_set4 _ _ _ _ _ _)).from _, below_set4 (((Below.refl _ _).alloc (by have := hB.size; omega) _).alloc (by have := hB.size; simp; omega) _) (Nat.le_refl _) _ _ _ _, ⟨.inr ⟨by rw [List.length_append, hl0]; rfl, y.set _ _ _ _⟩, ((hz.alloc _).alloc _).other (by omega) _ _ _ _⟩, below_set4 ((hB.alloc (by have := hB.size; omega) _).alloc (by have := hB.size; simp; omega) _) (Nat.le_refl _) _ _ _ _⟩
  case done =>
    rintro D ys W hD rfl ⟨⟨hcase, hz⟩, hB⟩ hK
    obtain ⟨hin, hbx⟩ : inB ms 0 60000 = true ∧ Box4 W w.heap.size 25 (.bool true) (.int .i64 M) (.int .i64 V) (.int .i64 R) := by
      rcases hcase with ⟨q, _⟩ | ⟨_, q⟩
      · simp at q
      · exact q
    clear hcase
    have hval : rtStepV h m v r ms = rtV4 true M V R := by
      unfold rtStepV
      rw [if_pos ⟨k, (in_of hin)⟩]
      unfold rtOn
      rw [hM, hV, hR]
    have d0 := hbx.c0
    have d1 := hbx.c1
    have d2 := hbx.c2
    have d3 := hbx.c3
    have z0 := hz.c0
    have z1 := hz.c1
    have z2 := hz.c2
    have z3 := hz.c3
    have g0 := hz.f0 0
    have g1 := hz.f0 1
    have g2 := hz.f0 2
    have g3 := hz.f0 3
    gi_wp2
    have hK' := (keeps_set4 W (w.heap.size + 1) (.bool true) (.int .i64 M) (.int .i64 V) (.int .i64 R)).same D _ hK rfl
    have hz' := (hz.set (.bool true) (.int .i64 M) (.int .i64 V) (.int .i64 R)).kept (grownBy_putObj' _ D (.deferred none)) (Box4.not_row (hz.set (.bool true) (.int .i64 M) (.int .i64 V) (.int .i64 R)) (fun r e => by cases e; exact ⟨_, hK', rfl⟩))
    have y0 := hz'.c0
    have y1 := hz'.c1
    have y2 := hz'.c2
    have y3 := hz'.c3
    have hBz := below_set4 hB (B := w.heap.size + 1) (by omega) (.bool true) (.int .i64 M) (.int .i64 V) (.int .i64 R)
    unfold set4 at hK' y0 y1 y2 y3 hBz
    refine ⟨by simp, .inl ⟨_, _, rfl, run_takeDeferred hK', ?_⟩⟩
    refine ⟨rtV4 true M V R, ?_, by rw [hval], hBz.trans (belowK_b (w := w) (Nat.le_refl _) _ D _ _ (by simp at hD; omega) hK' rfl rfl)⟩
    simp [results, Try.f27, go_sem, y0, y1, y2, y3, rtV4]
  case stop =>
    rintro D c pre W hD _ ⟨⟨rfl, hin, hz⟩, hB⟩ hK
    have hval : rtStepV h m v r ms = rtV4 false 0 0 0 := by
      unfold rtStepV
      exact if_neg (fun q => in_not hin q.2)
    have hz' := hz.kept (grownBy_putObj' _ D (.deferred none)) (Box4.not_row hz (fun r e => by cases e; exact ⟨_, hK, rfl⟩))
    have y0 := hz'.c0
    have y1 := hz'.c1
    have y2 := hz'.c2
    have y3 := hz'.c3
    gi_wp2
    refine ⟨by simp, .inl ⟨_, _, rfl, run_takeDeferred hK, ?_⟩⟩
    refine ⟨rtV4 false 0 0 0, ?_, by rw [hval], hB.trans (belowK_b (w := w) (Nat.le_refl _) W D _ _ (by simp at hD; omega) hK rfl rfl)⟩
    simp [results, Try.f27, go_sem, y0, y1, y2, y3, rtV4]

set_option maxRecDepth 100000 in
set_option maxHeartbeats 2000000 in
theorem beh_any (h : Bool) (m v r ms : Int) (w : World) (Bs b cap : Nat) (hBs : Bs < w.heap.size) (hb : b < w.heap.size) (hc : w.cell? ⟨Bs, 0, none⟩ = some (.slice (some ⟨b, 0, none⟩) 1 cap)) (hv : w.cell? ⟨b, 0, none⟩ = some (.int .i64 ms)) :
    Calls Try.prog 27 #[rtV4 h m v r, .func (.func 36) #[] #[.pointer (some ⟨Bs, 0, none⟩)]] w fun e w' => e = .returned (rtStepV h m v r ms) ∧ w.grownBy w' none := by
  cases k : rtOk h m v r
  · have hval : rtStepV h m v r ms = rtV4 false 0 0 0 := by
      unfold rtStepV
      exact if_neg (fun q => by rw [k] at q; simp at q)
    rw [hval]
    have hok := fun w => rt_ok_impl h m v r w
    rw [k] at hok
    unfold rtV4 at hok ⊢
    go_enter Try.func27, Try.ntmps27
    go_wp2_with (go_at_call 15; refine (hok _).mono ?_; rintro e w1 ⟨rfl, rfl⟩)
    exact bodyPost_ret (v := rtV4 false 0 0 0) (by simp [results, Try.results27, go_sem, rtV4]) rfl ⟨rfl, by first | exact ga3 _ _ _ _ | exact ga4 _ _ _ _ _⟩
  · refine (beh_yes h m v r ms w Bs b cap k hBs hb hc hv).mono ?_
    rintro e w' ⟨rfl, hB⟩
    exact ⟨rfl, hB.os, hB.tape, hB.output, hB.size, fun i hi _ => hB.block i hi⟩

end Go.Proofs.Ythnmkghaejapjaa
