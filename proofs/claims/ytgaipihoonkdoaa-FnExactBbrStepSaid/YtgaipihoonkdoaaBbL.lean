/- The laws' own helpers of states of pipes: their size, a copy, whether two are the same, their marks. -/
import Derived.Test.YtgaipihoonkdoaaBbW
namespace Go.Proofs.Ytgaipihoonkdoaa
open Go.RowKit

set_option maxRecDepth 100000 in
set_option maxHeartbeats 1000000 in
theorem sz_bbr (p : Int) (a : Option Addr) (c : Nat) (l : List Rg) (r f s t : Int) (w : World) (hl : l.length ≤ 9223372036854775807) : Calls Try.prog 32 #[bbV p a l.length c r f s t, .int .i64 1048576] w fun e w' => (∃ q : Int, e = .returned (.int .i64 q) ∧ (0 ≤ q → l.length ≤ 1048576)) ∧ w.grownBy w' none := by
  by_cases h1 : (l.length : Int) ≤ 1048576
  · have hnn : ¬ 1048576 - (l.length : Int) < 0 := by omega
    go_enter Try.func32, Try.ntmps32
    go_wp2_with fail
    refine (sz_ranges _ _ _ _ _ (by omega) rfl).mono ?_
    rintro e w1 ⟨rfl, rfl⟩
    rw [if_pos h1]
    go_wp2_with fail
    go_ret
    exact ⟨⟨_, rfl, fun _ => by omega⟩, World.grownBy_alloc _ _ _⟩
  · go_enter Try.func32, Try.ntmps32
    go_wp2_with fail
    refine (sz_ranges _ _ _ _ _ (by omega) rfl).mono ?_
    rintro e w1 ⟨rfl, rfl⟩
    rw [if_neg (by omega : ¬ (l.length : Int) ≤ 1048576)]
    go_wp2_with fail
    go_ret
    exact ⟨⟨_, rfl, fun h => by omega⟩, World.grownBy_alloc _ _ _⟩

def ToBbPost (w : World) (p : Int) (l : List Rg) (r f s t : Int) (e : Ending) (w' : World) : Prop :=
  ∃ q : Nat, e = .returned (bbV p (some ⟨q, 0, none⟩) l.length l.length r f s t) ∧ w.grownBy w' none ∧ OwnRg w' w.heap.size (some ⟨q, 0, none⟩) l.length l
theorem own_setq {w : World} {B q D o c : Nat} {v : Value} {l : List Rg} (h : OwnRg w B (some ⟨q, 0, none⟩) c l) (hne : D ≠ q) : OwnRg (w.setCell ⟨D, o, none⟩ v) B (some ⟨q, 0, none⟩) c l :=
  h.kept (grownBy_set w D o v) (.inr (by simp [Value.ownBlock]; omega))

set_option maxRecDepth 100000 in
set_option maxHeartbeats 2000000 in
theorem to_bbr (p : Int) (a : Option Addr) (c : Nat) (l : List Rg) (r f s t : Int) (w : World) (h : RgAt w a l) (hl : l.length ≤ 1048576) : Calls Try.prog 34 #[bbV p a l.length c r f s t] w (ToBbPost w p l r f s t) := by
  have hA := Bx.new w 46 (bbC p a l.length c r f s t)
  have gA1 := World.grownBy_alloc w (.cells (bbC p a l.length c r f s t) 46) none
  have e1 : (w.alloc (.cells (bbC p a l.length c r f s t) 46)).heap.size = w.heap.size + 1 := by simp
  generalize hw1 : w.alloc (.cells (bbC p a l.length c r f s t) 46) = w1 at *
  have hB := Bx.new w1 39 (#[.int .i64 0, .slice none 0 0, .int .i64 0, .int .i64 0, .int .i64 0, .int .i64 0])
  have gB1 := World.grownBy_alloc w1 (.cells (#[.int .i64 0, .slice none 0 0, .int .i64 0, .int .i64 0, .int .i64 0, .int .i64 0]) 39) none
  have e2 : (w1.alloc (.cells (#[.int .i64 0, .slice none 0 0, .int .i64 0, .int .i64 0, .int .i64 0, .int .i64 0]) 39)).heap.size = w.heap.size + 1 + 1 := by rw [← e1]; simp
  generalize hw2 : w1.alloc (.cells (#[.int .i64 0, .slice none 0 0, .int .i64 0, .int .i64 0, .int .i64 0, .int .i64 0]) 39) = w2 at *
  have hC := Bx.new w2 39 (#[.int .i64 p, .slice none 0 0, .int .i64 0, .int .i64 0, .int .i64 0, .int .i64 0])
  have gC1 := World.grownBy_alloc w2 (.cells (#[.int .i64 p, .slice none 0 0, .int .i64 0, .int .i64 0, .int .i64 0, .int .i64 0]) 39) none
  have e3 : (w2.alloc (.cells (#[.int .i64 p, .slice none 0 0, .int .i64 0, .int .i64 0, .int .i64 0, .int .i64 0]) 39)).heap.size = w.heap.size + 1 + 1 + 1 := by rw [← e2]; simp
  rw [e1] at hB
  rw [e2] at hC
  have HX := Lib.hid (And.intro ((hA.keep gB1).keep gC1) (And.intro (hB.keep gC1) (And.intro hC (grownBy_trans gA1 (grownBy_trans gB1 gC1)))))
  have E3 := Lib.hid e3
  have H := Lib.hid (h.kept (grownBy_trans gA1 (grownBy_trans gB1 gC1)))
  clear h hA hB hC gA1 gB1 gC1 e1 e2 e3
  subst hw2
  subst hw1
  go_enter Try.func34, Try.ntmps34
  go_wp2_with fail
  generalize (((w.alloc (.cells (bbC p a l.length c r f s t) 46)).alloc (.cells (#[.int .i64 0, .slice none 0 0, .int .i64 0, .int .i64 0, .int .i64 0, .int .i64 0]) 39)).alloc (.cells (#[.int .i64 p, .slice none 0 0, .int .i64 0, .int .i64 0, .int .i64 0, .int .i64 0]) 39)) = w3 at *
  refine (to_ranges _ _ _ _ H.out hl).mono ?_
  rintro e w4 ⟨rfl, hg, ho⟩
  have H4 := Lib.hid (And.intro (grownBy_trans HX.out.2.2.2 hg) (And.intro (HX.out.1.keep hg) (And.intro (HX.out.2.1.keep hg) (HX.out.2.2.1.keep hg))))
  rw [E3.out] at ho ⊢
  have HO := Lib.hid (own_base ho (by omega : w.heap.size ≤ w.heap.size + 1 + 1 + 1))
  clear hg ho
  have a0 := (H4.out.2.1).c 0 rfl
  have a1 := (H4.out.2.1).c 1 rfl
  have a2 := (H4.out.2.1).c 2 rfl
  have a3 := (H4.out.2.1).c 3 rfl
  have a4 := (H4.out.2.1).c 4 rfl
  have a5 := (H4.out.2.1).c 5 rfl
  have r0 := (H4.out.2.2.1).c 0 rfl
  have r1 := (H4.out.2.2.1).c 1 rfl
  have r2 := (H4.out.2.2.1).c 2 rfl
  have r3 := (H4.out.2.2.1).c 3 rfl
  have r4 := (H4.out.2.2.1).c 4 rfl
  have r5 := (H4.out.2.2.1).c 5 rfl
  have y0 := (H4.out.2.2.1).f 0
  have y1 := (H4.out.2.2.1).f 1
  have y2 := (H4.out.2.2.1).f 2
  have y3 := (H4.out.2.2.1).f 3
  have y4 := (H4.out.2.2.1).f 4
  have y5 := (H4.out.2.2.1).f 5
  have o0 := (H4.out.2.2.2).c 0 rfl
  have o1 := (H4.out.2.2.2).c 1 rfl
  have o2 := (H4.out.2.2.2).c 2 rfl
  have o3 := (H4.out.2.2.2).c 3 rfl
  have o4 := (H4.out.2.2.2).c 4 rfl
  have o5 := (H4.out.2.2.2).c 5 rfl
  have z0 := (H4.out.2.2.2).f 0
  have z1 := (H4.out.2.2.2).f 1
  have z2 := (H4.out.2.2.2).f 2
  have z3 := (H4.out.2.2.2).f 3
  have z4 := (H4.out.2.2.2).f 4
  have z5 := (H4.out.2.2.2).f 5
  go_wp2_with fail
  refine bodyPost_ret (v := bbV p (some ⟨w.heap.size + 1 + 1 + 1, 0, none⟩) l.length l.length r f s t) ?_ rfl ⟨_, rfl, ?_, ?_⟩
  · simp [results, Try.results34, go_sem, r0, r1, r2, r3, r4, r5]
  · repeat (first | with_reducible exact H4.out.1 | with_reducible refine gS ?_ (by omega) _ _)
  · repeat (first | with_reducible exact HO.out | with_reducible refine own_setq ?_ (by omega))

set_option maxRecDepth 100000 in
set_option maxHeartbeats 1000000 in
theorem eq_bbr (p : Int) (a d : Option Addr) (c g : Nat) (l : List Rg) (r f s t : Int) (w : World) (h : RgAt w a l) (h' : RgAt w d l) (hl : l.length ≤ 1048576) : Calls Try.prog 29 #[bbV p a l.length c r f s t, bbV p d l.length g r f s t] w fun e w' => e = .returned (.bool true) ∧ w.grownBy w' none := by
  have hA := Bx.new w 39 (bbC p a l.length c r f s t)
  have gA1 := World.grownBy_alloc w (.cells (bbC p a l.length c r f s t) 39) none
  have gB1 := World.grownBy_alloc (w.alloc (.cells (bbC p a l.length c r f s t) 39)) (.cells (bbC p d l.length g r f s t) 39) none
  have hB := Bx.new (w.alloc (.cells (bbC p a l.length c r f s t) 39)) 39 (bbC p d l.length g r f s t)
  rw [World.size_alloc] at hB
  have H := Lib.hid (And.intro (h.kept (grownBy_trans gA1 gB1)) (And.intro (h'.kept (grownBy_trans gA1 gB1)) (And.intro (grownBy_trans gA1 gB1) (And.intro (hA.keep gB1) hB))))
  clear h h' hA gA1 gB1 hB
  go_enter Try.func29, Try.ntmps29
  go_wp2_with fail
  refine (eq_ranges _ _ _ _ _ _ H.out.1 H.out.2.1 hl).mono ?_
  rintro e w4 ⟨rfl, hg⟩
  have HG := Lib.hid (And.intro (grownBy_trans H.out.2.2.1 hg) (And.intro (H.out.2.2.2.1.keep hg) (H.out.2.2.2.2.keep hg)))
  clear hg
  have a0 := (HG.out.2.1).c 0 rfl
  have a1 := (HG.out.2.1).c 1 rfl
  have a2 := (HG.out.2.1).c 2 rfl
  have a3 := (HG.out.2.1).c 3 rfl
  have a4 := (HG.out.2.1).c 4 rfl
  have a5 := (HG.out.2.1).c 5 rfl
  have b0 := (HG.out.2.2).c 0 rfl
  have b1 := (HG.out.2.2).c 1 rfl
  have b2 := (HG.out.2.2).c 2 rfl
  have b3 := (HG.out.2.2).c 3 rfl
  have b4 := (HG.out.2.2).c 4 rfl
  have b5 := (HG.out.2.2).c 5 rfl
  go_wp2_with fail
  go_ret
  exact ⟨rfl, HG.out.1⟩

set_option maxRecDepth 100000 in
set_option maxHeartbeats 1000000 in
theorem mark_bbr (p : Int) (a : Option Addr) (c B : Nat) (l : List Rg) (r f s t : Int) (w : World) (h : OwnRg w B a c l) (hl : l.length ≤ 1048576) : Calls Try.prog 30 #[bbV p a l.length c r f s t, .int .i64 1] w fun e w' => e = .returned (.int .i64 (1 + 2 * (l.length : Int))) ∧ (∃ wm, w.grownBy wm none ∧ wm.grownBy w' (Value.ownBlock (.slice a l.length c))) ∧ w'.ownsRow B 33 2 (.slice a l.length c) l.length (rgsV (mkR 1 l.length)) := by
  have hA := World.grownBy_alloc w (.cells (bbC p a l.length c r f s t) 39) none
  have H := Lib.hid (And.intro (own_kept h hA) hA)
  clear h hA
  go_enter Try.func30, Try.ntmps30
  go_wp2_with fail
  refine (rmark_any 1 (by omega) (by omega) _ _ _ _ _ hl H.out.1).mono ?_
  rintro e w4 ⟨rfl, hg, ho⟩
  have HG := Lib.hid (And.intro hg ho)
  clear hg ho
  go_wp2_with fail
  go_ret
  exact ⟨rfl, ⟨_, H.out.2, HG.out.1⟩, HG.out.2⟩

set_option maxRecDepth 100000 in
set_option maxHeartbeats 1000000 in
theorem held_bbr (p : Int) (a : Option Addr) (c m : Nat) (r f s t : Int) (w : World) (h : RgAt w a (mkR 1 m)) (hm : m ≤ 1048576) : Calls Try.prog 31 #[bbV p a m c r f s t, .int .i64 1] w fun e w' => e = .returned (.int .i64 (1 + 2 * (m : Int))) ∧ w.grownBy w' none := by
  have hA := World.grownBy_alloc w (.cells (bbC p a m c r f s t) 39) none
  have H := Lib.hid (And.intro (h.kept hA) hA)
  clear h hA
  have hnn : ¬ 1 + 2 * (m : Int) < 0 := by omega
  go_enter Try.func31, Try.ntmps31
  go_wp2_with fail
  refine (rheld_any 1 (by omega) (by omega) _ _ _ _ H.out.1 hm).mono ?_
  rintro e w4 ⟨rfl, hg⟩
  have HG := Lib.hid (grownBy_trans H.out.2 hg)
  clear hg
  go_wp2_with fail
  go_ret
  exact ⟨rfl, HG.out⟩

def bnV (q : Int) : Value := if inB q 1 60000 = true then .tuple #[bbV 1 none 0 0 q 0 0 0, .bool true] else .tuple #[bbV 0 none 0 0 0 0 0 0, .bool false]
def BnPost (w : World) (q : Int) (e : Ending) (w' : World) : Prop := e = .returned (bnV q) ∧ w.grownBy w' none

set_option maxRecDepth 100000 in
set_option maxHeartbeats 1000000 in
theorem bn_impl (q : Int) (w : World) : Calls Try.prog 28 #[.int .i64 q] w (BnPost w q) := by
  cases h : inB q 1 60000
  · have H := Lib.hid h
    clear h
    go_enter Try.func28, Try.ntmps28
    go_wp2_with (go_at_call 56; refine (trip_any _ _).mono ?_; rintro e w' ⟨rfl, rfl⟩; rw [H.out])
    refine bodyPost_ret (v := .tuple #[bbV 0 none 0 0 0 0 0 0, .bool false]) ?_ rfl ⟨by rw [bnV, H.out]; rfl, ?_⟩
    · simp [results, Try.results28, go_sem]
    · repeat (first | with_reducible exact World.grownBy_alloc _ _ _ | with_reducible refine gS ?_ (by simp) _ _)
  · have H := Lib.hid h
    clear h
    go_enter Try.func28, Try.ntmps28
    go_wp2_with (go_at_call 56; refine (trip_any _ _).mono ?_; rintro e w' ⟨rfl, rfl⟩; rw [H.out])
    refine bodyPost_ret (v := .tuple #[bbV 1 none 0 0 q 0 0 0, .bool true]) ?_ rfl ⟨by rw [bnV, H.out]; rfl, ?_⟩
    · simp [results, Try.results28, go_sem]
    · repeat (first | with_reducible exact World.grownBy_alloc _ _ _ | with_reducible refine gS ?_ (by simp) _ _)

set_option maxRecDepth 100000 in
set_option maxHeartbeats 1000000 in
theorem bn_spec (q : Int) (w : World) : Calls Try.prog 27 #[.int .i64 q] w (BnPost w q) := by
  cases h : inB q 1 60000
  · have H := Lib.hid h
    clear h
    go_enter Try.func27, Try.ntmps27
    go_wp2_with (go_at_call 53; refine (in_any _ _ _ _).mono ?_; rintro e w' ⟨rfl, rfl⟩; rw [H.out])
    refine bodyPost_ret (v := .tuple #[bbV 0 none 0 0 0 0 0 0, .bool false]) ?_ rfl ⟨by rw [bnV, H.out]; rfl, ?_⟩
    · simp [results, Try.results27, go_sem]
    · repeat (first | with_reducible exact World.grownBy_alloc _ _ _ | with_reducible refine gS ?_ (by simp) _ _)
  · have H := Lib.hid h
    clear h
    go_enter Try.func27, Try.ntmps27
    go_wp2_with (go_at_call 53; refine (in_any _ _ _ _).mono ?_; rintro e w' ⟨rfl, rfl⟩; rw [H.out])
    refine bodyPost_ret (v := .tuple #[bbV 1 none 0 0 q 0 0 0, .bool true]) ?_ rfl ⟨by rw [bnV, H.out]; rfl, ?_⟩
    · simp [results, Try.results27, go_sem]
    · repeat (first | with_reducible exact World.grownBy_alloc _ _ _ | with_reducible refine gS ?_ (by simp) _ _)

end Go.Proofs.Ytgaipihoonkdoaa
