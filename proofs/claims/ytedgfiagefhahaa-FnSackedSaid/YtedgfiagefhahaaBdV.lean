/- Boards: the drawings of a board, with a number. -/
import Derived.Test.YtedgfiagefhahaaBdZ
import Derived.Test.YtedgfiagefhahaaDraw
namespace Go.Proofs.Ytedgfiagefhahaa
open Go.RowKit

/-- A board that was drawn, in memory of its own. -/
structure Dbd (w : World) (u n : Int) (a : Option Addr) (c : Nat) (l : List Rg) (w' : World) : Prop where
  u0 : 0 ≤ u
  u1 : u ≤ 1000000000
  ll : l.length ≤ 40
  wn : (Lit.int .i64 n).wf = true
  fi : Fi u n l
  g : w.grownBy w' none
  row : OwnRg w' w.heap.size a c l
def Db0Post (w : World) (e : Ending) (w' : World) : Prop :=
  ∃ (u n : Int) (a : Option Addr) (c : Nat) (l : List Rg), e = .returned (bdV u n a l.length c) ∧ Dbd w u n a c l w'
def Db1Post (w : World) (e : Ending) (w' : World) : Prop :=
  ∃ (u n : Int) (a : Option Addr) (c : Nat) (l : List Rg) (k : Int), e = .returned (.tuple #[bdV u n a l.length c, .int .i64 k]) ∧ (Lit.int .i64 k).wf = true ∧ Dbd w u n a c l w'
def Db2Post (w : World) (e : Ending) (w' : World) : Prop :=
  ∃ (u n : Int) (a : Option Addr) (c : Nat) (l : List Rg) (k m : Int), e = .returned (.tuple #[bdV u n a l.length c, .int .i64 k, .int .i64 m]) ∧ (Lit.int .i64 k).wf = true ∧ (Lit.int .i64 m).wf = true ∧ Dbd w u n a c l w'
/-- The result's block, written behind the drawing. -/
theorem Dbd.done {w W : World} {u n : Int} {a : Option Addr} {c : Nat} {l : List Rg} (h0 : 0 ≤ u ∧ u ≤ 1000000000 ∧ l.length ≤ 40 ∧ (Lit.int .i64 n).wf = true ∧ Fi u n l) (hg : w.grownBy W none) (ho : OwnRg W (w.heap.size + 1) a c l) : Dbd w u n a c l (((W.setCell ⟨w.heap.size, 0, none⟩ (.int .i64 u)).setCell ⟨w.heap.size, 1, none⟩ (.int .i64 n)).setCell ⟨w.heap.size, 2, none⟩ (.slice a l.length c)) := by
  have hs := fun (V : World) (i : Nat) (v : Value) => grownBy_set V w.heap.size i v
  have hf : ∀ g, Value.ownBlock (.slice a l.length c) = some g → g ≠ w.heap.size := fun g hv => by have := (own_in ho g hv).1; omega
  exact ⟨h0.1, h0.2.1, h0.2.2.1, h0.2.2.2.1, h0.2.2.2.2, gS (gS (gS hg (Nat.le_refl _) _ _) (Nat.le_refl _) _ _) (Nat.le_refl _) _ _, own_base (own_far (own_far (own_far ho (hs _ _ _) (fun g hv => by simp; exact hf g hv)) (hs _ _ _) (fun g hv => by simp; exact hf g hv)) (hs _ _ _) (fun g hv => by simp; exact hf g hv)) (by omega)⟩

/-- Where a drawing with a board in a block of its own stands. -/
structure Dr (w : World) (E : Nat) (u n : Int) (ao : Option Addr) (cc : Nat) (l : List Rg) (W : World) : Prop where
  g : w.grownBy W none
  rd : RdOk W (w.heap.size + 1)
  res : Bx W w.heap.size 26 #[.int .i64 0, .int .i64 0, .slice none 0 0]
  row : OwnRg W (w.heap.size + 2) ao cc l
  box : Bx W E 26 #[.int .i64 u, .int .i64 n, .slice ao l.length cc]
  lt : w.heap.size + 1 < E
theorem Dr.move {w W W2 : World} {E : Nat} {u n : Int} {ao : Option Addr} {cc : Nat} {l : List Rg} (k : Dr w E u n ao cc l W) (hg : W.grownBy W2 (some (w.heap.size + 1))) (hr : RdOk W2 (w.heap.size + 1)) : Dr w E u n ao cc l W2 := by
  have h1 := k.lt
  exact ⟨grownBy_new k.g hg (by omega), hr, k.res.kept hg (by simp), own_far k.row hg (fun g hv => by have := (own_in k.row g hv).1; simp; omega), k.box.kept hg (by simp; omega), k.lt⟩
theorem Dr.keep {w W W2 : World} {E : Nat} {u n : Int} {ao : Option Addr} {cc : Nat} {l : List Rg} (k : Dr w E u n ao cc l W) (hg : W.grownBy W2 none) : Dr w E u n ao cc l W2 := k.move (gE hg) (k.rd.kept hg (by simp) (by simp))
theorem Dr.fin {w W : World} {E : Nat} {u n : Int} {ao : Option Addr} {cc : Nat} {l : List Rg} (k : Dr w E u n ao cc l W) (h0 : 0 ≤ u ∧ u ≤ 1000000000 ∧ l.length ≤ 40 ∧ (Lit.int .i64 n).wf = true ∧ Fi u n l) : Dbd w u n ao cc l (((W.setCell ⟨w.heap.size, 0, none⟩ (.int .i64 u)).setCell ⟨w.heap.size, 1, none⟩ (.int .i64 n)).setCell ⟨w.heap.size, 2, none⟩ (.slice ao l.length cc)) :=
  Dbd.done h0 k.g (own_base k.row (by omega))

set_option maxRecDepth 100000 in
set_option maxHeartbeats 4000000 in
theorem draw_bok (a : Option Addr) (n0 c : Nat) (w : World) (h : CodeIn w a n0) : Calls Try.prog 15 #[.slice a n0 c] w (Db0Post w) := by
  have H := Lib.hid h
  clear h
  go_enter Try.func15, Try.ntmps15
  go_wp2_with fail
  refine (open_any _ _ _ _ (H.out.kept (World.grownBy_alloc _ _ _))).mono ?_
  rintro e w1 ⟨rfl, hg, hr⟩
  simp only [World.size_alloc] at hr
  have H1 := Lib.hid (And.intro (grownBy_trans (World.grownBy_alloc w (.cells #[.int .i64 0, .int .i64 0, .slice none 0 0] 26) none) hg) (And.intro hr ((Bx.new w 26 #[.int .i64 0, .int .i64 0, .slice none 0 0]).keep hg)))
  clear hg hr
  go_wp2_with fail
  refine (board_draw _ _ H1.out.2.1).mono ?_
  rintro e w2 ⟨u, n, ao, cc, l, rfl, u0, u1, ul, hg, hr, ho⟩
  have hge : w.heap.size + 1 ≤ w1.heap.size := H1.out.2.2.lt
  have H2 := Lib.hid (And.intro (grownBy_new H1.out.1 hg (by omega)) (And.intro hr (And.intro (H1.out.2.2.kept hg (by simp)) (own_base ho H1.out.2.1.lt))))
  clear hg hr ho
  have z0 := H2.out.2.2.1.c 0 (x := .int .i64 0) rfl
  have z1 := H2.out.2.2.1.c 1 (x := .int .i64 0) rfl
  have z2 := H2.out.2.2.1.c 2 (x := .slice none 0 0) rfl
  have x0 := H2.out.2.2.1.f 0
  have x1 := H2.out.2.2.1.f 1
  have x2 := H2.out.2.2.1.f 2
  go_wp2_with fail
  exact bodyPost_ret (v := .agg #[.int .i64 u, .int .i64 n, .slice ao l.length cc]) (by simp [results, Try.results15, go_sem, z0, z1, z2]) rfl ⟨u, n, ao, cc, l, rfl, Dbd.done ⟨u0, u1, ul.1, ul.2⟩ H2.out.1 (own_base H2.out.2.2.2 (by omega))⟩

set_option maxRecDepth 100000 in
set_option maxHeartbeats 4000000 in
theorem draw_bsent (a : Option Addr) (n0 c : Nat) (w : World) (h : CodeIn w a n0) : Calls Try.prog 9 #[.slice a n0 c] w (Db1Post w) := by
  have H := Lib.hid h
  clear h
  go_enter Try.func9, Try.ntmps9
  go_wp2_with fail
  refine (open_any _ _ _ _ (H.out.kept (World.grownBy_alloc _ _ _))).mono ?_
  rintro e w1 ⟨rfl, hg, hr⟩
  simp only [World.size_alloc] at hr
  have H1 := Lib.hid (And.intro (grownBy_trans (World.grownBy_alloc w (.cells #[.int .i64 0, .int .i64 0, .slice none 0 0] 26) none) hg) (And.intro hr ((Bx.new w 26 #[.int .i64 0, .int .i64 0, .slice none 0 0]).keep hg)))
  clear hg hr
  go_wp2_with fail
  refine (board_draw _ _ H1.out.2.1).mono ?_
  rintro e w2 ⟨u, n, ao, cc, l, rfl, u0, u1, ul, hg, hr, ho⟩
  have hge : w.heap.size + 1 ≤ w1.heap.size := H1.out.2.2.lt
  have H2 := Lib.hid (And.intro (grownBy_new H1.out.1 hg (by omega)) (And.intro hr (And.intro (H1.out.2.2.kept hg (by simp)) (own_base ho H1.out.2.1.lt))))
  clear hg hr ho
  have hge2 : w.heap.size + 2 ≤ w1.heap.size := H1.out.2.1.lt
  have HD := Lib.hid (show Dr w w2.heap.size u n ao cc l (w2.alloc (.cells #[.int .i64 u, .int .i64 n, .slice ao l.length cc] 26)) from ⟨gA H2.out.1 _, H2.out.2.1.alloc _, H2.out.2.2.1.alloc _, own_base (own_kept H2.out.2.2.2 (World.grownBy_alloc _ _ _)) (Nat.le_refl _), Bx.new _ _ _, H2.out.2.1.lt⟩)
  have hw := Lib.hid (And.intro u0 (And.intro u1 (And.intro ul.1 ul.2)))
  clear ul hge hge2 H1 H2 H
  go_wp2_with fail
  have bc0 := HD.out.box.c 0 (x := .int .i64 u) rfl
  have bc1 := HD.out.box.c 1 (x := .int .i64 n) rfl
  have bc2 := HD.out.box.c 2 (x := .slice ao l.length cc) rfl
  have z0 := HD.out.res.c 0 (x := .int .i64 0) rfl
  have z1 := HD.out.res.c 1 (x := .int .i64 0) rfl
  have z2 := HD.out.res.c 2 (x := .slice none 0 0) rfl
  have x0 := HD.out.res.f 0
  have x1 := HD.out.res.f 1
  have x2 := HD.out.res.f 2
  have le := HD.out.box.lt
  have lr := HD.out.res.lt
  go_region_with (first | (go_at_call 31; refine (off_w (w.heap.size + 1) 1 20 _ ?_ ⟨by decide, by decide⟩ (wf_of (by decide) (by decide))).mono ?_; exact (HD.out.keep (by first | with_reducible exact World.grownBy.refl _ _ | with_reducible exact grownBy_drew | with_reducible exact World.grownBy_alloc _ _ none)).rd; rintro e w6 ⟨k, hk, rfl, hg, hr⟩; have H5 := Lib.hid (HD.out.move (by first | with_reducible exact hg | with_reducible exact grownBy_trans grownBy_drew hg) hr); have HK := Lib.hid hk; clear hk hg hr; have bc0 := H5.out.box.c 0 (x := .int .i64 u) rfl; have bc1 := H5.out.box.c 1 (x := .int .i64 n) rfl; have bc2 := H5.out.box.c 2 (x := .slice ao l.length cc) rfl; have z0 := H5.out.res.c 0 (x := .int .i64 0) rfl; have z1 := H5.out.res.c 1 (x := .int .i64 0) rfl; have z2 := H5.out.res.c 2 (x := .slice none 0 0) rfl; have x0 := H5.out.res.f 0; have x1 := H5.out.res.f 1; have x2 := H5.out.res.f 2; have le := H5.out.box.lt; have lr := H5.out.res.lt))
  all_goals
    go_wp2_with fail
    exact bodyPost_ret (v := .tuple #[.agg #[.int .i64 u, .int .i64 n, .slice ao l.length cc], .int .i64 k]) (by simp [results, Try.results9, go_sem, z0, z1, z2]) rfl ⟨u, n, ao, cc, l, k, rfl, HK.out, H5.out.fin hw.out⟩

set_option maxRecDepth 100000 in
set_option maxHeartbeats 4000000 in
theorem draw_back (a : Option Addr) (n0 c : Nat) (w : World) (h : CodeIn w a n0) : Calls Try.prog 12 #[.slice a n0 c] w (Db1Post w) := by
  have H := Lib.hid h
  clear h
  go_enter Try.func12, Try.ntmps12
  go_wp2_with fail
  refine (open_any _ _ _ _ (H.out.kept (World.grownBy_alloc _ _ _))).mono ?_
  rintro e w1 ⟨rfl, hg, hr⟩
  simp only [World.size_alloc] at hr
  have H1 := Lib.hid (And.intro (grownBy_trans (World.grownBy_alloc w (.cells #[.int .i64 0, .int .i64 0, .slice none 0 0] 26) none) hg) (And.intro hr ((Bx.new w 26 #[.int .i64 0, .int .i64 0, .slice none 0 0]).keep hg)))
  clear hg hr
  go_wp2_with fail
  refine (board_draw _ _ H1.out.2.1).mono ?_
  rintro e w2 ⟨u, n, ao, cc, l, rfl, u0, u1, ul, hg, hr, ho⟩
  have hge : w.heap.size + 1 ≤ w1.heap.size := H1.out.2.2.lt
  have H2 := Lib.hid (And.intro (grownBy_new H1.out.1 hg (by omega)) (And.intro hr (And.intro (H1.out.2.2.kept hg (by simp)) (own_base ho H1.out.2.1.lt))))
  clear hg hr ho
  have hge2 : w.heap.size + 2 ≤ w1.heap.size := H1.out.2.1.lt
  have HD := Lib.hid (show Dr w w2.heap.size u n ao cc l (w2.alloc (.cells #[.int .i64 u, .int .i64 n, .slice ao l.length cc] 26)) from ⟨gA H2.out.1 _, H2.out.2.1.alloc _, H2.out.2.2.1.alloc _, own_base (own_kept H2.out.2.2.2 (World.grownBy_alloc _ _ _)) (Nat.le_refl _), Bx.new _ _ _, H2.out.2.1.lt⟩)
  have hw := Lib.hid (And.intro u0 (And.intro u1 (And.intro ul.1 ul.2)))
  clear ul hge hge2 H1 H2 H
  go_wp2_with fail
  have bc0 := HD.out.box.c 0 (x := .int .i64 u) rfl
  have bc1 := HD.out.box.c 1 (x := .int .i64 n) rfl
  have bc2 := HD.out.box.c 2 (x := .slice ao l.length cc) rfl
  have z0 := HD.out.res.c 0 (x := .int .i64 0) rfl
  have z1 := HD.out.res.c 1 (x := .int .i64 0) rfl
  have z2 := HD.out.res.c 2 (x := .slice none 0 0) rfl
  have x0 := HD.out.res.f 0
  have x1 := HD.out.res.f 1
  have x2 := HD.out.res.f 2
  have le := HD.out.box.lt
  have lr := HD.out.res.lt
  go_region_with (first | (go_at_call 31; refine (off_w (w.heap.size + 1) u n _ ?_ ⟨hw.out.1, hw.out.2.1⟩ hw.out.2.2.2.1).mono ?_; exact (HD.out.keep (by first | with_reducible exact World.grownBy.refl _ _ | with_reducible exact grownBy_drew | with_reducible exact World.grownBy_alloc _ _ none)).rd; rintro e w6 ⟨k, hk, rfl, hg, hr⟩; have H5 := Lib.hid (HD.out.move (by first | with_reducible exact hg | with_reducible exact grownBy_trans grownBy_drew hg) hr); have HK := Lib.hid hk; clear hk hg hr; have bc0 := H5.out.box.c 0 (x := .int .i64 u) rfl; have bc1 := H5.out.box.c 1 (x := .int .i64 n) rfl; have bc2 := H5.out.box.c 2 (x := .slice ao l.length cc) rfl; have z0 := H5.out.res.c 0 (x := .int .i64 0) rfl; have z1 := H5.out.res.c 1 (x := .int .i64 0) rfl; have z2 := H5.out.res.c 2 (x := .slice none 0 0) rfl; have x0 := H5.out.res.f 0; have x1 := H5.out.res.f 1; have x2 := H5.out.res.f 2; have le := H5.out.box.lt; have lr := H5.out.res.lt))
  all_goals
    go_wp2_with fail
    exact bodyPost_ret (v := .tuple #[.agg #[.int .i64 u, .int .i64 n, .slice ao l.length cc], .int .i64 k]) (by simp [results, Try.results12, go_sem, z0, z1, z2]) rfl ⟨u, n, ao, cc, l, k, rfl, HK.out, H5.out.fin hw.out⟩

set_option maxRecDepth 100000 in
set_option maxHeartbeats 4000000 in
theorem draw_blost (a : Option Addr) (n0 c : Nat) (w : World) (h : CodeIn w a n0) : Calls Try.prog 26 #[.slice a n0 c] w (Db2Post w) := by
  have H := Lib.hid h
  clear h
  go_enter Try.func26, Try.ntmps26
  go_wp2_with fail
  refine (open_any _ _ _ _ (H.out.kept (World.grownBy_alloc _ _ _))).mono ?_
  rintro e w1 ⟨rfl, hg, hr⟩
  simp only [World.size_alloc] at hr
  have H1 := Lib.hid (And.intro (grownBy_trans (World.grownBy_alloc w (.cells #[.int .i64 0, .int .i64 0, .slice none 0 0] 26) none) hg) (And.intro hr ((Bx.new w 26 #[.int .i64 0, .int .i64 0, .slice none 0 0]).keep hg)))
  clear hg hr
  go_wp2_with fail
  refine (board_draw _ _ H1.out.2.1).mono ?_
  rintro e w2 ⟨u, n, ao, cc, l, rfl, u0, u1, ul, hg, hr, ho⟩
  have hge : w.heap.size + 1 ≤ w1.heap.size := H1.out.2.2.lt
  have H2 := Lib.hid (And.intro (grownBy_new H1.out.1 hg (by omega)) (And.intro hr (And.intro (H1.out.2.2.kept hg (by simp)) (own_base ho H1.out.2.1.lt))))
  clear hg hr ho
  have hge2 : w.heap.size + 2 ≤ w1.heap.size := H1.out.2.1.lt
  have HD := Lib.hid (show Dr w w2.heap.size u n ao cc l (w2.alloc (.cells #[.int .i64 u, .int .i64 n, .slice ao l.length cc] 26)) from ⟨gA H2.out.1 _, H2.out.2.1.alloc _, H2.out.2.2.1.alloc _, own_base (own_kept H2.out.2.2.2 (World.grownBy_alloc _ _ _)) (Nat.le_refl _), Bx.new _ _ _, H2.out.2.1.lt⟩)
  have hw := Lib.hid (And.intro u0 (And.intro u1 (And.intro ul.1 ul.2)))
  clear ul hge hge2 H1 H2 H
  have bc0 := HD.out.box.c 0 (x := .int .i64 u) rfl
  have bc1 := HD.out.box.c 1 (x := .int .i64 n) rfl
  have bc2 := HD.out.box.c 2 (x := .slice ao l.length cc) rfl
  have le := HD.out.box.lt
  go_wp2_with fail
  refine (off_w (w.heap.size + 1) u n _ HD.out.rd ⟨hw.out.1, hw.out.2.1⟩ hw.out.2.2.2.1).mono ?_
  rintro e w5 ⟨at1, hk, rfl, hg, hr⟩
  have HD := Lib.hid (HD.out.move hg hr)
  have HA := Lib.hid hk
  clear hk hg hr le bc0 bc1 bc2
  go_wp2_with fail
  have bc0 := HD.out.box.c 0 (x := .int .i64 u) rfl
  have bc1 := HD.out.box.c 1 (x := .int .i64 n) rfl
  have bc2 := HD.out.box.c 2 (x := .slice ao l.length cc) rfl
  have z0 := HD.out.res.c 0 (x := .int .i64 0) rfl
  have z1 := HD.out.res.c 1 (x := .int .i64 0) rfl
  have z2 := HD.out.res.c 2 (x := .slice none 0 0) rfl
  have x0 := HD.out.res.f 0
  have x1 := HD.out.res.f 1
  have x2 := HD.out.res.f 2
  have le := HD.out.box.lt
  have lr := HD.out.res.lt
  go_region_with (first | (go_at_call 31; refine (off_w (w.heap.size + 1) 1 3 _ ?_ ⟨by decide, by decide⟩ (wf_of (by decide) (by decide))).mono ?_; exact (HD.out.keep (by first | with_reducible exact World.grownBy.refl _ _ | with_reducible exact grownBy_drew | with_reducible exact World.grownBy_alloc _ _ none)).rd; rintro e w6 ⟨k, hk, rfl, hg, hr⟩; have H5 := Lib.hid (HD.out.move (by first | with_reducible exact hg | with_reducible exact grownBy_trans grownBy_drew hg) hr); have HK := Lib.hid hk; clear hk hg hr; have bc0 := H5.out.box.c 0 (x := .int .i64 u) rfl; have bc1 := H5.out.box.c 1 (x := .int .i64 n) rfl; have bc2 := H5.out.box.c 2 (x := .slice ao l.length cc) rfl; have z0 := H5.out.res.c 0 (x := .int .i64 0) rfl; have z1 := H5.out.res.c 1 (x := .int .i64 0) rfl; have z2 := H5.out.res.c 2 (x := .slice none 0 0) rfl; have x0 := H5.out.res.f 0; have x1 := H5.out.res.f 1; have x2 := H5.out.res.f 2; have le := H5.out.box.lt; have lr := H5.out.res.lt))
  all_goals
    go_wp2_with fail
    exact bodyPost_ret (v := .tuple #[.agg #[.int .i64 u, .int .i64 n, .slice ao l.length cc], .int .i64 at1, .int .i64 k]) (by simp [results, Try.results26, go_sem, z0, z1, z2]) rfl ⟨u, n, ao, cc, l, at1, k, rfl, HA.out, HK.out, H5.out.fin hw.out⟩

end Go.Proofs.Ytedgfiagefhahaa
