/- Boards: the drawing of a board, walked. -/
import Derived.Test.YtedgfiagefhahaaBdW
import Derived.LoopTactic
namespace Go.Proofs.Ytedgfiagefhahaa
open Go.RowKit

def DbPost (w : World) (r : Nat) (e : Ending) (w' : World) : Prop :=
  ∃ (u n : Int) (a : Option Addr) (c : Nat) (l : List Rg), e = .returned (bdV u n a l.length c) ∧ 0 ≤ u ∧ u ≤ 1000000000 ∧ (l.length ≤ 40 ∧ (Lit.int .i64 n).wf = true ∧ Fi u n l) ∧ w.grownBy w' (some r) ∧ RdOk w' r ∧ OwnRg w' w.heap.size a c l
def DbRel (w : World) (r E : Nat) (i : Value) (wr : World) : Prop :=
  ∃ (j kk : Nat) (u n : Int) (a : Option Addr) (c : Nat) (l : List Rg), j + kk ≤ 5 ∧ i = .int .i64 (j : Nat) ∧ BS (Lb kk) w r E u n a c l wr
theorem bs_next {P Q : Int → List Rg → Prop} {w W : World} {r E : Nat} {u n : Int} {a : Option Addr} {c : Nat} {l : List Rg} (k : BS P w r E u n a c l W) (x : Int) (hx : (Lit.int .i64 x).wf = true) (hq : Q x l) : BS Q w r E u x a c l (W.setCell ⟨E, 1, none⟩ (.int .i64 x)) := by
  have h1 := k.lr
  have h2 := k.le
  have hg := grownBy_set W E 1 (.int .i64 x)
  exact ⟨k.lr, k.le, gSr k.g (by omega) _ _, k.rd.kept hg (by simp; omega) (fun x e => by cases e; omega), k.res.other (by omega) _ _, k.box.s 1 _, own_far k.row hg (fun g hv => by simp; exact k.far g hv), k.far, k.u0, k.u1, ⟨k.ll.1, hx, hq⟩⟩
theorem bs_to {P : Int → List Rg → Prop} {w W X V : World} {r E : Nat} {u n : Int} {a : Option Addr} {c : Nat} {l : List Rg} {a2 : Option Addr} {c2 : Nat} {L : List Rg} (k : BS P w r E u n a c l W) (hg : X.grownBy V none) (ho : OwnRg V X.heap.size a2 c2 L) (hx : W.grownBy X none) : BS P w r E u n a c l X ∧ X.grownBy V none ∧ OwnRg V X.heap.size a2 c2 L := ⟨k.keep hx, hg, ho⟩
theorem NS.again {P Q Q2 : Int → List Rg → Prop} {w W X V : World} {r E Z : Nat} {u n : Int} {a : Option Addr} {c : Nat} {l : List Rg} {U N : Int} {a2 : Option Addr} {c2 : Nat} {L : List Rg} {U' N' : Int} {a3 : Option Addr} {c3 : Nat} {L' : List Rg} (k : NS P Q w r E u n a c l Z U N a2 c2 L W) (hg : X.grownBy V none) (ho : OwnRg V X.heap.size a3 c3 L') (u0 : 0 ≤ U') (u1 : U' ≤ 1000000000) (ll : L'.length ≤ 40 ∧ (Lit.int .i64 N').wf = true ∧ Q2 N' L') (hx : W.grownBy X none) : NS P Q2 w r E u n a c l Z U' N' a3 c3 L' (((V.setCell ⟨Z, 0, none⟩ (.int .i64 U')).setCell ⟨Z, 1, none⟩ (.int .i64 N')).setCell ⟨Z, 2, none⟩ (.slice a3 L'.length c3)) :=
  NS.old (k.b.keep hx) hg ho ((k.box.keep hx).keep hg) k.lz k.nz (by have := k.box.lt; have := hx.size; omega) u0 u1 ll
theorem rg_one (W : World) (x y : Int) (t : TypeId) : RgAt (W.alloc (.cells #[.int .i64 x, .int .i64 y] t)) (some ⟨W.heap.size, 0, none⟩) [(x, y)] := by
  have h := Bx.new W t #[.int .i64 x, .int .i64 y]
  refine .inr ⟨_, _, rfl, h.lt, fun i hi => ?_⟩
  obtain rfl : i = 0 := by simpa using hi
  exact ⟨h.c 0 rfl, h.c 1 rfl⟩
theorem own_head {W : World} {B c : Nat} {a : Option Addr} {l : List Rg} (h : OwnRg W B a c l) (hl : 0 < l.length) : ∃ g, a = some ⟨g, 0, none⟩ := by
  rcases h.2 with ⟨_, h0⟩ | ⟨g, cap', cur, hv, _⟩
  · omega
  · simp at hv
    exact ⟨g, hv.1⟩
theorem own_to {W : World} {B c g : Nat} {l : List Rg} (h : OwnRg W B (some ⟨g, 0, none⟩) c l) (hl : 0 < l.length) : W.cell? ⟨g, 1, none⟩ = some (.int .i64 (l[0]'hl).2) := by
  have h1 := (rgsV_get l 0 hl).2
  rw [Nat.zero_mul, Nat.zero_add] at h1
  rw [h.cellAt 1 (by omega)]
  exact h1
theorem bs_row {P Q : Int → List Rg → Prop} {w W : World} {r E g : Nat} {u n : Int} {c : Nat} {l : List Rg} (k : BS P w r E u n (some ⟨g, 0, none⟩) c l W) (hl : 0 < l.length) (x : Int) (hq : Q n (l.set 0 ((l[0]'hl).1, x))) : BS Q w r E u n (some ⟨g, 0, none⟩) c (l.set 0 ((l[0]'hl).1, x)) (W.setCell ⟨g, 1, none⟩ (.int .i64 x)) := by
  have h1 := k.lr
  have h2 := k.le
  have h3 := (own_in k.row g rfl).1
  have h4 := k.far g rfl
  have hg := grownBy_set W g 1 (.int .i64 x)
  have hs := (k.row.stored 1 (.int .i64 x)).1
  have hv : (rgsV l).set 1 (.int .i64 x) = rgsV (l.set 0 ((l[0]'hl).1, x)) := by
    cases l with
    | nil => simp at hl
    | cons p t => simp [rgsV, rgV]
  refine ⟨k.lr, k.le, gSr k.g (by omega) _ _, k.rd.kept hg (by simp; omega) (fun y e => by cases e; omega), k.res.other (by omega) _ _, ?_, ?_, ?_, k.u0, k.u1, ⟨by rw [List.length_set]; exact k.ll.1, k.ll.2.1, hq⟩⟩
  · rw [List.length_set]
    exact k.box.other (by omega) _ _
  · unfold OwnRg
    rw [List.length_set, ← hv]
    exact hs
  · rw [List.length_set]
    exact k.far
theorem bs_len {P : Int → List Rg → Prop} {w W : World} {r E g : Nat} {u n x y : Int} {c : Nat} {l : List Rg} (k : BS P w r E u n (some ⟨g, 0, none⟩) c (l.set 0 (y, x)) W) : W.cell? ⟨E, 2, none⟩ = some (.slice (some ⟨g, 0, none⟩) l.length c) := by
  have h := k.box.c 2 rfl
  rw [List.length_set] at h
  exact h
theorem ns_new {P Q : Int → List Rg → Prop} {w W V : World} {r E : Nat} {u n : Int} {a : Option Addr} {c : Nat} {l : List Rg} {U N : Int} {a2 : Option Addr} {c2 : Nat} {L : List Rg} (k : BS P w r E u n a c l W) (hg : W.grownBy V none) (ho : OwnRg V W.heap.size a2 c2 L) (h : 0 ≤ U ∧ U ≤ 1000000000 ∧ (L.length ≤ 40 ∧ (Lit.int .i64 N).wf = true ∧ Q N L)) : NS P Q w r E u n a c l V.heap.size U N a2 c2 L (V.alloc (.cells #[.int .i64 U, .int .i64 N, .slice a2 L.length c2] 26)) := NS.new k hg ho h.1 h.2.1 h.2.2
theorem res_set {w W : World} {r E : Nat} {u n : Int} {a : Option Addr} {c : Nat} {l : List Rg} (k : BS (Fi u) w r E u n a c l W) : DbPost w r (.returned (bdV u n a l.length c)) (((W.setCell ⟨w.heap.size, 0, none⟩ (.int .i64 u)).setCell ⟨w.heap.size, 1, none⟩ (.int .i64 n)).setCell ⟨w.heap.size, 2, none⟩ (.slice a l.length c)) := by
  have h1 := k.lr
  have hs := fun (V : World) (i : Nat) (v : Value) => grownBy_set V w.heap.size i v
  have hrd := fun (V : World) (hr : RdOk V r) (i : Nat) (v : Value) => hr.kept (hs V i v) (by simp; omega) (fun x e => by cases e; omega)
  have hf : ∀ g, Value.ownBlock (.slice a l.length c) = some g → g ≠ w.heap.size := fun g hv => by have := (own_in k.row g hv).1; omega
  exact ⟨u, n, a, c, l, rfl, k.u0, k.u1, k.ll, gSr (gSr (gSr k.g (by omega) _ _) (by omega) _ _) (by omega) _ _, hrd _ (hrd _ (hrd _ k.rd _ _) _ _) _ _, own_base (own_far (own_far (own_far k.row (hs _ _ _) (fun g hv => by simp; exact hf g hv)) (hs _ _ _) (fun g hv => by simp; exact hf g hv)) (hs _ _ _) (fun g hv => by simp; exact hf g hv)) (by omega)⟩

theorem below_4 (r : Nat) (w : World) (h : RdOk w r) : Calls Try.prog 40 #[.pointer (some ⟨r, 0, none⟩), .int .i64 4] w (NextPost w r 0 3) := by
  have k := below_any r 4 w h (by omega)
  rw [if_neg (by omega)] at k
  exact k
theorem below_6 (r : Nat) (w : World) (h : RdOk w r) : Calls Try.prog 40 #[.pointer (some ⟨r, 0, none⟩), .int .i64 6] w (NextPost w r 0 5) := by
  have k := below_any r 6 w h (by omega)
  rw [if_neg (by omega)] at k
  exact k
theorem below_8 (r : Nat) (w : World) (h : RdOk w r) : Calls Try.prog 40 #[.pointer (some ⟨r, 0, none⟩), .int .i64 8] w (NextPost w r 0 7) := by
  have k := below_any r 8 w h (by omega)
  rw [if_neg (by omega)] at k
  exact k
theorem below_10 (r : Nat) (w : World) (h : RdOk w r) : Calls Try.prog 40 #[.pointer (some ⟨r, 0, none⟩), .int .i64 10] w (NextPost w r 0 9) := by
  have k := below_any r 10 w h (by omega)
  rw [if_neg (by omega)] at k
  exact k
theorem below_24 (r : Nat) (w : World) (h : RdOk w r) : Calls Try.prog 40 #[.pointer (some ⟨r, 0, none⟩), .int .i64 24] w (NextPost w r 0 23) := by
  have k := below_any r 24 w h (by omega)
  rw [if_neg (by omega)] at k
  exact k

set_option maxRecDepth 100000 in
set_option maxHeartbeats 30000000 in
theorem board_draw (r : Nat) (w : World) (h : RdOk w r) : Calls Try.prog 30 #[.pointer (some ⟨r, 0, none⟩)] w (DbPost w r) := by
  have hlt := h.lt
  have H := Lib.hid h
  clear h
  go_enter Try.func30, Try.ntmps30
  go_wp2_with fail
  refine (below_any _ _ _ (H.out.alloc _) (by omega)).mono ?_
  rintro e w1 ⟨q, q0, q1, rfl, hg, hr⟩
  rw [if_neg (by omega)] at q1
  have H1 := Lib.hid (And.intro (grownBy_trans (World.grownBy_alloc w (.cells #[.int .i64 0, .int .i64 0, .slice none 0 0] 26) (some r)) hg) (And.intro hr ((Bx.new w 26 #[.int .i64 0, .int .i64 0, .slice none 0 0]).kept hg (by simp; omega))))
  clear hg hr
  have HS := Lib.hid (show BS (Lb 0) w r w1.heap.size q q none 0 [] (w1.alloc (.cells #[.int .i64 q, .int .i64 q, .slice none 0 0] 26)) from ⟨hlt, H1.out.2.2.lt, grownBy_trans H1.out.1 (World.grownBy_alloc _ _ _), H1.out.2.1.alloc _, H1.out.2.2.alloc _, Bx.new _ _ _, own_none _ _, (fun g hv => by cases hv), q0, by omega, ⟨Nat.zero_le _, wf_small (by omega) (by omega), ⟨q0, by omega, Nat.zero_le _, by simp⟩⟩⟩)
  clear H1 H
  go_wp2_with fail
  refine (below_any _ _ _ HS.out.rd (by omega)).mono ?_
  rintro e w4 ⟨q2, p0, p1, rfl, hg, hr⟩
  rw [if_neg (by omega)] at p1
  obtain ⟨j, rfl⟩ := Int.eq_ofNat_of_zero_le p0
  have hj5 : j ≤ 5 := by omega
  have HS := Lib.hid (HS.out.move hg hr)
  clear hg hr p0 p1
  generalize w1.heap.size = E at *
  go_wp2_with fail
  go_loopw [4] (fun i wr => DbRel w r E i wr) (fun i _ => (intOf i).toNat)
  case atStart => exact ⟨j, 0, q, q, none, 0, [], hj5, rfl, HS.out⟩
  case round =>
    clear HS hj5 q0 q1
    obtain ⟨j, kk, u, n, a, c, l, hj5, rfl, hst⟩ := hrel
    have HS := Lib.hid hst
    clear hst
    have ne1 : ¬ E = w.heap.size := by have := HS.out.le; omega
    have ne2 : ¬ w.heap.size = E := by have := HS.out.le; omega
    by_cases h0 : j = 0
    · subst h0
      go_wp2_with fail
      refine (below_any _ _ _ HS.out.rd (by omega)).mono ?_
      rintro e w5 ⟨t, t0, t1, rfl, hg, hr⟩
      have HS := Lib.hid (HS.out.move hg hr)
      clear hg hr t0 t1
      have bc0 := HS.out.box.c 0 (x := .int .i64 u) rfl
      have bc1 := HS.out.box.c 1 (x := .int .i64 n) rfl
      have bc2 := HS.out.box.c 2 (x := .slice a l.length c) rfl
      have bf0 := HS.out.box.f 0
      have bf1 := HS.out.box.f 1
      have bf2 := HS.out.box.f 2
      by_cases h22 : t = 22
      · subst h22
        go_wp2_with fail
        refine (off_w _ _ _ _ HS.out.rd (by omega) (wf_of (by omega) (by omega))).mono ?_
        rintro e w6 ⟨x, hx, rfl, hg, hr⟩
        have HS := Lib.hid (HS.out.move hg hr)
        have HX := Lib.hid hx
        clear hx hg hr bc0 bc1 bc2 bf0 bf1 bf2
        have bc0 := HS.out.box.c 0 (x := .int .i64 u) rfl
        have bc1 := HS.out.box.c 1 (x := .int .i64 n) rfl
        have bc2 := HS.out.box.c 2 (x := .slice a l.length c) rfl
        have bf0 := HS.out.box.f 0
        have bf1 := HS.out.box.f 1
        have bf2 := HS.out.box.f 2
        have HS := Lib.hid (bs_next (Q := Fi u) HS.out x HX.out (lb_next HS.out.ll.2.2 (by omega)))
        have z0 := HS.out.res.c 0 (x := .int .i64 0) rfl
        have z1 := HS.out.res.c 1 (x := .int .i64 0) rfl
        have z2 := HS.out.res.c 2 (x := .slice none 0 0) rfl
        have x0 := HS.out.res.f 0
        have x1 := HS.out.res.f 1
        have x2 := HS.out.res.f 2
        go_wp2_with fail
        exact bodyPost_ret (v := .agg #[.int .i64 u, .int .i64 x, .slice a l.length c]) (by simp [results, Try.results30, go_sem, z0, z1, z2]) rfl (res_set HS.out)
      · by_cases h23 : t = 23
        · subst h23
          by_cases hl0 : l.length = 0
          · have HS := Lib.hid (HS.out.imp (Q := Fi u) (lb_fi HS.out.ll.2.2 (by omega)))
            have hl1 : ¬ (0 : Int) < (l.length : Int) := by omega
            clear hl0
            have z0 := HS.out.res.c 0 (x := .int .i64 0) rfl
            have z1 := HS.out.res.c 1 (x := .int .i64 0) rfl
            have z2 := HS.out.res.c 2 (x := .slice none 0 0) rfl
            have x0 := HS.out.res.f 0
            have x1 := HS.out.res.f 1
            have x2 := HS.out.res.f 2
            go_wp2_with fail
            exact bodyPost_ret (v := .agg #[.int .i64 u, .int .i64 n, .slice a l.length c]) (by simp [results, Try.results30, go_sem, z0, z1, z2]) rfl (res_set HS.out)
          · have hl1 : (0 : Int) < (l.length : Int) := by omega
            have hl2 : 0 < l.length := by omega
            clear hl0
            obtain ⟨g, rfl⟩ := own_head HS.out.row hl2
            have HP := Lib.hid hl2
            have ltg := (own_in HS.out.row g rfl).2
            have ltE := HS.out.box.lt
            have rc := own_to HS.out.row HP.out
            have rf := HS.out.row.frozenAt 1
            go_wp2_with fail
            go_region_with (first | (go_at_call 31; refine (off_w r 0 40 _ ?_ ⟨by decide, by decide⟩ (wf_of (by decide) (by decide))).mono ?_; exact (HS.out.keep (by first | with_reducible exact World.grownBy.refl _ _ | with_reducible exact grownBy_drew | with_reducible exact World.grownBy_alloc _ _ none | with_reducible exact grownBy_trans grownBy_drew (World.grownBy_alloc _ _ none) | with_reducible exact grownBy_trans (World.grownBy_alloc _ _ none) grownBy_drew)).rd; rintro e w6 ⟨x, _, rfl, hg, hr⟩; have H5 := Lib.hid (HS.out.move (by first | with_reducible exact hg | with_reducible exact grownBy_trans grownBy_drew hg | with_reducible exact grownBy_trans (World.grownBy_alloc _ _ _) hg | with_reducible exact grownBy_trans grownBy_drew (grownBy_trans (World.grownBy_alloc _ _ _) hg) | with_reducible exact grownBy_trans (World.grownBy_alloc _ _ _) (grownBy_trans grownBy_drew hg)) hr); clear hg hr; have rc := own_to H5.out.row HP.out; have rf := H5.out.row.frozenAt 1; have lt5 := H5.out.box.lt; have lg5 := (own_in H5.out.row g rfl).2; have bc0 := H5.out.box.c 0 (x := .int .i64 u) rfl; have bc1 := H5.out.box.c 1 (x := .int .i64 n) rfl; have bc2 := H5.out.box.c 2 (x := .slice (some ⟨g, 0, none⟩) l.length c) rfl))
            all_goals
              have HX := Lib.hid (bs_row (Q := Fi u) H5.out HP.out x (lb_to H5.out.ll.2.2 (by omega) (List.length_set ..)))
              have z0 := HX.out.res.c 0 (x := .int .i64 0) rfl
              have z1 := HX.out.res.c 1 (x := .int .i64 0) rfl
              have z2 := HX.out.res.c 2 (x := .slice none 0 0) rfl
              have x0 := HX.out.res.f 0
              have x1 := HX.out.res.f 1
              have x2 := HX.out.res.f 2
              have bc0 := HX.out.box.c 0 (x := .int .i64 u) rfl
              have bc1 := HX.out.box.c 1 (x := .int .i64 n) rfl
              have bc2 := bs_len HX.out
              have lw := HX.out.res.lt
              go_wp2_with fail
              exact bodyPost_ret (v := .agg #[.int .i64 u, .int .i64 n, .slice (some ⟨g, 0, none⟩) l.length c]) (by simp [results, Try.results30, go_sem, z0, z1, z2]) rfl (by have h := res_set HX.out; rw [List.length_set] at h; exact h)
        · have HS := Lib.hid (HS.out.imp (Q := Fi u) (lb_fi HS.out.ll.2.2 (by omega)))
          have z0 := HS.out.res.c 0 (x := .int .i64 0) rfl
          have z1 := HS.out.res.c 1 (x := .int .i64 0) rfl
          have z2 := HS.out.res.c 2 (x := .slice none 0 0) rfl
          have x0 := HS.out.res.f 0
          have x1 := HS.out.res.f 1
          have x2 := HS.out.res.f 2
          go_wp2_with fail
          exact bodyPost_ret (v := .agg #[.int .i64 u, .int .i64 n, .slice a l.length c]) (by simp [results, Try.results30, go_sem, z0, z1, z2]) rfl (res_set HS.out)
    · obtain ⟨m, rfl⟩ : ∃ m, j = m + 1 := ⟨j - 1, by omega⟩
      clear h0
      have bc0 := HS.out.box.c 0 (x := .int .i64 u) rfl
      have bc1 := HS.out.box.c 1 (x := .int .i64 n) rfl
      have bc2 := HS.out.box.c 2 (x := .slice a l.length c) rfl
      have ltE := HS.out.box.lt
      go_upto_region 6 with fail
      go_cut [5, 6] (fun s5 s6 wx => ∃ (Z : Nat) (U N : Int) (L : List Rg) (D : Bool) (a2 : Option Addr) (c2 : Nat), s5 = .pointer (some ⟨Z, 0, none⟩) ∧ s6 = .bool D ∧ NS (Lb kk) (Lb (kk + 1)) w r E u n a c l Z U N a2 c2 L wx)
      case first =>
        go_region_with (first | (go_at_call 40; refine (below_10 r _ ?_).mono ?_; exact (HS.out.keep (by first | with_reducible exact World.grownBy.refl _ _ | with_reducible exact grownBy_drew | with_reducible exact World.grownBy_alloc _ _ none | with_reducible exact grownBy_trans grownBy_drew (World.grownBy_alloc _ _ none) | with_reducible exact grownBy_trans (World.grownBy_alloc _ _ none) grownBy_drew)).rd; rintro e w5 ⟨q, q0, q1, rfl, hg, hr⟩; have H5 := Lib.hid (HS.out.move (by first | with_reducible exact hg | with_reducible exact grownBy_trans grownBy_drew hg | with_reducible exact grownBy_trans (World.grownBy_alloc _ _ _) hg | with_reducible exact grownBy_trans grownBy_drew (grownBy_trans (World.grownBy_alloc _ _ _) hg) | with_reducible exact grownBy_trans (World.grownBy_alloc _ _ _) (grownBy_trans grownBy_drew hg)) hr); (first | have va := Lib.hid ((Bx.new _ 26 #[.int .i64 0, .int .i64 0, .slice none 0 0]).kept hg (by have := HS.out.rd.lt; simp; omega)) | have va := Lib.hid (((Bx.new _ 26 #[.int .i64 0, .int .i64 0, .slice none 0 0]).keep (grownBy_drew (r := none))).kept hg (by have := HS.out.rd.lt; simp; omega)) | skip); clear hg hr; have bc0 := H5.out.box.c 0 (x := .int .i64 u) rfl; have bc1 := H5.out.box.c 1 (x := .int .i64 n) rfl; have bc2 := H5.out.box.c 2 (x := .slice a l.length c) rfl; have lt5 := H5.out.box.lt; have s1 : IntKind.i64.wrap (1 + q) = 1 + q := IntWalk.i64_in _ (by omega)) | (go_at_call 11; refine (sent_d u n a c l (1 + q) _ ?_ H5.out.ll.1 H5.out.u0 H5.out.u1 (by omega) H5.out.ll.2.2).mono ?_; exact own_rowOk (H5.out.keep (by first | with_reducible exact World.grownBy.refl _ _ | with_reducible exact grownBy_drew | with_reducible exact World.grownBy_alloc _ _ none | with_reducible exact grownBy_trans grownBy_drew (World.grownBy_alloc _ _ none) | with_reducible exact grownBy_trans (World.grownBy_alloc _ _ none) grownBy_drew)).row; rintro e w6 ⟨U, N, L, D, a2, c2, rfl, u0, u1, ul, hg, ho⟩; (first | have vb := Lib.hid ((Bx.new _ 26 #[.int .i64 0, .int .i64 0, .slice none 0 0]).keep hg) | have vb := Lib.hid (((Bx.new _ 26 #[.int .i64 0, .int .i64 0, .slice none 0 0]).keep (grownBy_drew (r := none))).keep hg) | have vb := Lib.hid (va.out.keep hg) | skip); have H6 := Lib.hid (bs_to H5.out hg ho (by first | with_reducible exact World.grownBy.refl _ _ | with_reducible exact grownBy_drew | with_reducible exact World.grownBy_alloc _ _ none | with_reducible exact grownBy_trans grownBy_drew (World.grownBy_alloc _ _ none) | with_reducible exact grownBy_trans (World.grownBy_alloc _ _ none) grownBy_drew)); clear hg ho; try (have q0 := vb.out.c 0 (x := .int .i64 0) rfl; have q1 := vb.out.c 1 (x := .int .i64 0) rfl; have q2 := vb.out.c 2 (x := .slice none 0 0) rfl; have qf0 := vb.out.f 0; have qf1 := vb.out.f 1; have qf2 := vb.out.f 2)))
        all_goals
          go_wp2_with fail
          go_meet
          first
            | exact ⟨_, _, _, _, _, _, _, rfl, rfl, NS.new H6.out.1 H6.out.2.1 H6.out.2.2 u0 u1 ul⟩
            | exact ⟨_, _, _, _, _, _, _, rfl, rfl, NS.old H6.out.1 H6.out.2.1 H6.out.2.2 vb.out (by first | exact ltE | exact lt5 | omega) (fun g hv => by have h1 := (own_in HS.out.row g hv).2; have h2 := (own_in H5.out.row g hv).2; first | omega | (simp; omega)) (by first | exact va.out.lt | (simp; done) | (simp; omega) | (have := va.out.lt; simp; omega)) u0 u1 ul⟩
            | (trace_state; fail)
      case rest =>
        obtain ⟨Z, U, N, L, D, a2, c2, rfl, rfl, hns⟩ := hcut
        clear bc0 bc1 bc2 ltE HS
        have HN := Lib.hid hns
        clear hns
        generalize hwc : wc = w7 at *
        clear hwc
        go_wp2_with fail
        refine (below_4 _ _ HN.out.b.rd).mono ?_
        rintro e w8 ⟨q, q0, q1, rfl, hg, hr⟩
        have HN := Lib.hid (HN.out.move hg hr)
        clear hg hr
        have hu0 := HN.out.b.u0
        have hu1 := HN.out.b.u1
        by_cases hq0 : q = 0
        · subst hq0
          go_upto_region 9 with fail
          have bc0 := HN.out.b.box.c 0 (x := .int .i64 u) rfl
          have bc1 := HN.out.b.box.c 1 (x := .int .i64 n) rfl
          have bc2 := HN.out.b.box.c 2 (x := .slice a l.length c) rfl
          have ltE := HN.out.b.box.lt
          go_region_with (first | (go_at_call 40; refine (below_6 r _ ?_).mono ?_; exact (HN.out.b.keep (by first | with_reducible exact World.grownBy.refl _ _ | with_reducible exact grownBy_drew | with_reducible exact World.grownBy_alloc _ _ none | with_reducible exact grownBy_trans grownBy_drew (World.grownBy_alloc _ _ none) | with_reducible exact grownBy_trans (World.grownBy_alloc _ _ none) grownBy_drew)).rd; rintro e w9 ⟨q2, q20, q21, rfl, hg, hr⟩; have H5 := Lib.hid (HN.out.move (by first | with_reducible exact hg | with_reducible exact grownBy_trans grownBy_drew hg | with_reducible exact grownBy_trans (World.grownBy_alloc _ _ _) hg | with_reducible exact grownBy_trans grownBy_drew (grownBy_trans (World.grownBy_alloc _ _ _) hg) | with_reducible exact grownBy_trans (World.grownBy_alloc _ _ _) (grownBy_trans grownBy_drew hg)) hr); clear hg hr; have bc0 := H5.out.b.box.c 0 (x := .int .i64 u) rfl; have bc1 := H5.out.b.box.c 1 (x := .int .i64 n) rfl; have bc2 := H5.out.b.box.c 2 (x := .slice a l.length c) rfl; have lt5 := H5.out.b.box.lt; have s1 : IntKind.i64.wrap (u + q2) = u + q2 := IntWalk.i64_in _ (by omega)) | (go_at_call 14; refine (ack_d u n a c l (u + q2) _ ?_ H5.out.b.ll.1 H5.out.b.ll.2.2).mono ?_; exact own_rowOk (H5.out.b.keep (by first | with_reducible exact World.grownBy.refl _ _ | with_reducible exact grownBy_drew | with_reducible exact World.grownBy_alloc _ _ none | with_reducible exact grownBy_trans grownBy_drew (World.grownBy_alloc _ _ none) | with_reducible exact grownBy_trans (World.grownBy_alloc _ _ none) grownBy_drew)).row; rintro e w10 ⟨U2, N2, L2, D2, a3, c3, rfl, u0, u1, ul, hg, ho⟩; have HB := Lib.hid ((H5.out.box.keep (by first | with_reducible exact World.grownBy.refl _ _ | with_reducible exact grownBy_drew | with_reducible exact World.grownBy_alloc _ _ none | with_reducible exact grownBy_trans grownBy_drew (World.grownBy_alloc _ _ none) | with_reducible exact grownBy_trans (World.grownBy_alloc _ _ none) grownBy_drew)).keep hg); have lZ := HB.out.lt; have H6 := Lib.hid (NS.again (N' := N2) H5.out hg ho u0 u1 ul (by first | with_reducible exact World.grownBy.refl _ _ | with_reducible exact grownBy_drew | with_reducible exact World.grownBy_alloc _ _ none | with_reducible exact grownBy_trans grownBy_drew (World.grownBy_alloc _ _ none) | with_reducible exact grownBy_trans (World.grownBy_alloc _ _ none) grownBy_drew)); clear hg ho H5; have q0 := HB.out.c 0 (x := .int .i64 U) rfl; have q1 := HB.out.c 1 (x := .int .i64 N) rfl; have q2 := HB.out.c 2 (x := .slice a2 L.length c2) rfl; have qf0 := HB.out.f 0; have qf1 := HB.out.f 1; have qf2 := HB.out.f 2))
          all_goals
            have HN := H6
            clear H6 HB lZ q0 q1
            cases D2
            · go_wp2_with fail
              go_roundw
              case rel => exact ⟨m, kk, u, n, a, c, l, by omega, by go_num, HN.out.b⟩
              case measure => first | (simp [intOf]; done) | (simp [intOf]; omega)
            · skip
              have nc0 := HN.out.box.c 0 (x := .int .i64 U2) rfl
              have nc1 := HN.out.box.c 1 (x := .int .i64 N2) rfl
              have nc2 := HN.out.box.c 2 (x := .slice a3 L2.length c3) rfl
              have bf0 := HN.out.b.box.f 0
              have bf1 := HN.out.b.box.f 1
              have bf2 := HN.out.b.box.f 2
              have bc0 := HN.out.b.box.c 0 (x := .int .i64 u) rfl
              have bc1 := HN.out.b.box.c 1 (x := .int .i64 n) rfl
              have bc2 := HN.out.b.box.c 2 (x := .slice a l.length c) rfl
              have lE := HN.out.b.box.lt
              have lZ := HN.out.lz
              have HT := Lib.hid (HN.out.take)
              go_wp2_with fail
              go_roundw
              case rel => exact ⟨m, kk + 1, U2, N2, a3, c3, L2, by omega, by go_num, HT.out⟩
              case measure => first | (simp [intOf]; done) | (simp [intOf]; omega)
        · by_cases hq1 : q = 1
          · subst hq1
            have s1 : IntKind.i64.wrap (u + 1) = u + 1 := IntWalk.i64_in _ (by omega)
            go_upto_region 11 with fail
            go_cut [7] (fun s7 wx => ∃ x : Int, s7 = .int .i64 x ∧ 0 ≤ x ∧ x ≤ 2000000000 ∧ NS (Lb kk) (Lb (kk + 1)) w r E u n a c l Z U N a2 c2 L wx)
            case first =>
              have bc0 := HN.out.b.box.c 0 (x := .int .i64 u) rfl
              have bc1 := HN.out.b.box.c 1 (x := .int .i64 n) rfl
              have bc2 := HN.out.b.box.c 2 (x := .slice a l.length c) rfl
              have ltE := HN.out.b.box.lt
              go_region_with (first | (go_at_call 40; refine (below_8 r _ ?_).mono ?_; exact (HN.out.b.keep (by first | with_reducible exact World.grownBy.refl _ _ | with_reducible exact grownBy_drew | with_reducible exact World.grownBy_alloc _ _ none | with_reducible exact grownBy_trans grownBy_drew (World.grownBy_alloc _ _ none) | with_reducible exact grownBy_trans (World.grownBy_alloc _ _ none) grownBy_drew)).rd; rintro e w9 ⟨q2, q20, q21, rfl, hg, hr⟩; have H5 := Lib.hid (HN.out.move (by first | with_reducible exact hg | with_reducible exact grownBy_trans grownBy_drew hg | with_reducible exact grownBy_trans (World.grownBy_alloc _ _ _) hg | with_reducible exact grownBy_trans grownBy_drew (grownBy_trans (World.grownBy_alloc _ _ _) hg) | with_reducible exact grownBy_trans (World.grownBy_alloc _ _ _) (grownBy_trans grownBy_drew hg)) hr); clear hg hr; have bc0 := H5.out.b.box.c 0 (x := .int .i64 u) rfl; have bc1 := H5.out.b.box.c 1 (x := .int .i64 n) rfl; have bc2 := H5.out.b.box.c 2 (x := .slice a l.length c) rfl; have lt5 := H5.out.b.box.lt; have s2 : IntKind.i64.wrap (u + 1 + q2) = u + 1 + q2 := IntWalk.i64_in _ (by omega)))
              all_goals
                go_wp2_with fail
                go_meet
                exact ⟨_, rfl, by omega, by omega, H5.out⟩
            case rest =>
              clear HN s1
              obtain ⟨x, rfl, x0, x1, hns⟩ := hcut
              have HN := Lib.hid hns
              clear hns
              generalize hwc : wc = w11 at *
              clear hwc
              have s1 : IntKind.i64.wrap (x + 1) = x + 1 := IntWalk.i64_in _ (by omega)
              go_upto_region 12 with fail
              have bc0 := HN.out.b.box.c 0 (x := .int .i64 u) rfl
              have bc1 := HN.out.b.box.c 1 (x := .int .i64 n) rfl
              have bc2 := HN.out.b.box.c 2 (x := .slice a l.length c) rfl
              have ltE := HN.out.b.box.lt
              go_region_with (first | (go_at_call 40; refine (below_4 r _ ?_).mono ?_; exact (HN.out.b.keep (by first | with_reducible exact World.grownBy.refl _ _ | with_reducible exact grownBy_drew | with_reducible exact World.grownBy_alloc _ _ none | with_reducible exact grownBy_trans grownBy_drew (World.grownBy_alloc _ _ none) | with_reducible exact grownBy_trans (World.grownBy_alloc _ _ none) grownBy_drew)).rd; rintro e w9 ⟨q2, q20, q21, rfl, hg, hr⟩; have H5 := Lib.hid (HN.out.move (by first | with_reducible exact hg | with_reducible exact grownBy_trans grownBy_drew hg | with_reducible exact grownBy_trans (World.grownBy_alloc _ _ _) hg | with_reducible exact grownBy_trans grownBy_drew (grownBy_trans (World.grownBy_alloc _ _ _) hg) | with_reducible exact grownBy_trans (World.grownBy_alloc _ _ _) (grownBy_trans grownBy_drew hg)) hr); clear hg hr; have bc0 := H5.out.b.box.c 0 (x := .int .i64 u) rfl; have bc1 := H5.out.b.box.c 1 (x := .int .i64 n) rfl; have bc2 := H5.out.b.box.c 2 (x := .slice a l.length c) rfl; have lt5 := H5.out.b.box.lt; have s2 : IntKind.i64.wrap (x + 1 + q2) = x + 1 + q2 := IntWalk.i64_in _ (by omega)) | (go_at_call 23; refine (sack_d u n a c l _ _ [(x, x + 1 + q2)] 1 _ ?_ H5.out.b.ll.1 H5.out.b.u0 H5.out.b.u1 ?_ rfl (by omega) H5.out.b.ll.2.2).mono ?_; exact own_rowOk (H5.out.b.keep (by first | with_reducible exact World.grownBy.refl _ _ | with_reducible exact grownBy_drew | with_reducible exact World.grownBy_alloc _ _ none | with_reducible exact grownBy_trans grownBy_drew (World.grownBy_alloc _ _ none) | with_reducible exact grownBy_trans (World.grownBy_alloc _ _ none) grownBy_drew)).row; exact rg_one _ _ _ _; rintro e w10 ⟨U2, N2, L2, D2, a3, c3, rfl, u0, u1, ul, hg, ho⟩; have HB := Lib.hid ((H5.out.box.keep (by first | with_reducible exact World.grownBy.refl _ _ | with_reducible exact grownBy_drew | with_reducible exact World.grownBy_alloc _ _ none | with_reducible exact grownBy_trans grownBy_drew (World.grownBy_alloc _ _ none) | with_reducible exact grownBy_trans (World.grownBy_alloc _ _ none) grownBy_drew)).keep hg); have lZ := HB.out.lt; have H6 := Lib.hid (NS.again (N' := N2) H5.out hg ho u0 u1 ul (by first | with_reducible exact World.grownBy.refl _ _ | with_reducible exact grownBy_drew | with_reducible exact World.grownBy_alloc _ _ none | with_reducible exact grownBy_trans grownBy_drew (World.grownBy_alloc _ _ none) | with_reducible exact grownBy_trans (World.grownBy_alloc _ _ none) grownBy_drew)); clear hg ho H5; have q0 := HB.out.c 0 (x := .int .i64 U) rfl; have q1 := HB.out.c 1 (x := .int .i64 N) rfl; have q2 := HB.out.c 2 (x := .slice a2 L.length c2) rfl; have qf0 := HB.out.f 0; have qf1 := HB.out.f 1; have qf2 := HB.out.f 2))
              all_goals
                have HN := H6
                clear H6 HB lZ q0 q1
                cases D2
                · go_wp2_with fail
                  go_roundw
                  case rel => exact ⟨m, kk, u, n, a, c, l, by omega, by go_num, HN.out.b⟩
                  case measure => first | (simp [intOf]; done) | (simp [intOf]; omega)
                · skip
                  have nc0 := HN.out.box.c 0 (x := .int .i64 U2) rfl
                  have nc1 := HN.out.box.c 1 (x := .int .i64 N2) rfl
                  have nc2 := HN.out.box.c 2 (x := .slice a3 L2.length c3) rfl
                  have bf0 := HN.out.b.box.f 0
                  have bf1 := HN.out.b.box.f 1
                  have bf2 := HN.out.b.box.f 2
                  have bc0 := HN.out.b.box.c 0 (x := .int .i64 u) rfl
                  have bc1 := HN.out.b.box.c 1 (x := .int .i64 n) rfl
                  have bc2 := HN.out.b.box.c 2 (x := .slice a l.length c) rfl
                  have lE := HN.out.b.box.lt
                  have lZ := HN.out.lz
                  have HT := Lib.hid (HN.out.take)
                  go_wp2_with fail
                  go_roundw
                  case rel => exact ⟨m, kk + 1, U2, N2, a3, c3, L2, by omega, by go_num, HT.out⟩
                  case measure => first | (simp [intOf]; done) | (simp [intOf]; omega)
          · have d0 : (q == 0) = false := by simpa using hq0
            have d1 : (q == 1) = false := by simpa using hq1
            cases D
            · go_wp2_with fail
              go_roundw
              case rel => exact ⟨m, kk, u, n, a, c, l, by omega, by go_num, HN.out.b⟩
              case measure => first | (simp [intOf]; done) | (simp [intOf]; omega)
            · skip
              have nc0 := HN.out.box.c 0 (x := .int .i64 U) rfl
              have nc1 := HN.out.box.c 1 (x := .int .i64 N) rfl
              have nc2 := HN.out.box.c 2 (x := .slice a2 L.length c2) rfl
              have bf0 := HN.out.b.box.f 0
              have bf1 := HN.out.b.box.f 1
              have bf2 := HN.out.b.box.f 2
              have bc0 := HN.out.b.box.c 0 (x := .int .i64 u) rfl
              have bc1 := HN.out.b.box.c 1 (x := .int .i64 n) rfl
              have bc2 := HN.out.b.box.c 2 (x := .slice a l.length c) rfl
              have lE := HN.out.b.box.lt
              have lZ := HN.out.lz
              have HT := Lib.hid (HN.out.take)
              go_wp2_with fail
              go_roundw
              case rel => exact ⟨m, kk + 1, U, N, a2, c2, L, by omega, by go_num, HT.out⟩
              case measure => first | (simp [intOf]; done) | (simp [intOf]; omega)

end Go.Proofs.Ytedgfiagefhahaa
