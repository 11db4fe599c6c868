/- For every row of samples, every sample and every width the law FnExactFilterAdd answers true and leaves its arguments as they were; no condition. -/
import Derived.Test.YtgaipihoonkdoaaRows
import Derived.Test.YtgaipihoonkdoaaDraw
import Derived.Test.YtgaipihoonkdoaaFlD
import Derived.WalkKit
import Derived.ProofKit
import Derived.OpenShut
import Derived.ShutString
import Derived.ChangeOld
import Derived.Below
import Derived.Lib.SmallJoins
import Derived.Deep.SlicePairs
namespace Go.Proofs.Ytgaipihoonkdoaa.fnExactFilterAdd
open Go.ChangeShapes Go.WideShapes Go.ChangeAt Go.RowKit Go.Joins
open Go.ChangeMaps (open_string shut_string)
set_option linter.unusedVariables false

theorem own : ownKnob Try.prog.godebug = none := by kernel_rfl
theorem laidOut : laidOutB Try.prog = true := by kernel_rfl
theorem cells30 : Try.prog.cellsOf 30 = 2 := by kernel_rfl

theorem dummy : True := trivial

set_option maxRecDepth 100000 in
set_option maxHeartbeats 3000000 in
theorem walk (a0 : Option Addr) (cap0 : Nat) (l0 : List Rg) (a1_0 : Int) (a1_1 : Int) (a2 : Int) (w : World) (w0 : RgAt w a0 l0) (n0 : l0.length ≤ maxLen) (w1_0 : (Lit.int .i64 a1_0).wf = true) (w1_1 : (Lit.int .i64 a1_1).wf = true) (w2 : (Lit.int .i64 a2).wf = true) :
    Calls Try.prog 4 #[.slice a0 l0.length cap0, .agg #[.int .i64 a1_0, .int .i64 a1_1], .int .i64 a2] w fun e w' => e = .returned (.bool true) ∧ Below w.heap.size w w' := by
  unfold maxLen at n0
  have HA := Lib.hid w0
  clear w0
  have HB := Lib.hid (And.intro (Bx.new w 30 #[.int .i64 a1_0, .int .i64 a1_1]) (World.grownBy_alloc w (.cells #[.int .i64 a1_0, .int .i64 a1_1] 30) none))
  have hL := addL_len l0 (a1_0, a1_1) a2
  go_enter Try.func4, Try.ntmps4
  go_wp2_with fail
  have HA := Lib.hid (HA.out.kept HB.out.2)
  generalize w.alloc (.cells #[.int .i64 a1_0, .int .i64 a1_1] 30) = w0b at *
  have b0 := HB.out.1.c 0 rfl
  have b1 := HB.out.1.c 1 rfl
  refine (sz_ranges _ _ _ _ _ (by omega) rfl).mono ?_
  rintro e wb ⟨rfl, rfl⟩
  by_cases hn : (l0.length : Int) ≤ 1048576
  · rw [if_pos hn]
    have hnn : ¬ 1048576 - (l0.length : Int) < 0 := by omega
    have hl : l0.length ≤ 1048576 := by omega
    have hl2 : ¬ 1 + 2 * (l0.length : Int) < 0 := by omega
    go_wp2_with fail
    refine wp_region_held_drew (S := fun w' => w'.cell? ⟨w.heap.size, 0, none⟩ = some (.int .i64 a1_0) ∧ w'.cell? ⟨w.heap.size, 1, none⟩ = some (.int .i64 a1_1) ∧ wb.grownBy w' none) (by kernel_rfl) (⟨by first | assumption | (go_simp; done) | (simp [*]; done), by first | assumption | (go_simp; done) | (simp [*]; done), grownBy_trans (World.grownBy.refl _ _) grownBy_drew⟩) (fun hS => ?_)
    refine wpAnyH_take (i := 0) (v := ?_) rfl (by kernel_rfl) (by kernel_rfl) (by kernel_rfl) (fun _ _ _ h => h) (Or.inl ⟨by kernel_rfl, ?_⟩) hS ?_
    rotate_left
    · intro w' hSw
      obtain ⟨g0, g1, _⟩ := hSw
      first | (go_simp; done) | (go_simp; with_reducible rfl)
    simp only [List.getElem_toArray, List.getElem_cons_zero, Act.put, List.setIfInBounds_toArray, List.set_cons_zero, List.set_cons_succ]
    refine wpAnyH_take (i := 2) (v := ?_) rfl (by kernel_rfl) (by kernel_rfl) (by kernel_rfl) (fun _ _ _ h => h) (Or.inl ⟨by kernel_rfl, ?_⟩) hS ?_
    rotate_left
    · intro w' hSw
      obtain ⟨g0, g1, _⟩ := hSw
      first | (go_simp; done) | (go_simp; with_reducible rfl)
    simp only [List.getElem_toArray, List.getElem_cons_zero, List.getElem_cons_succ, Act.put, List.setIfInBounds_toArray, List.set_cons_zero, List.set_cons_succ]
    refine wpAnyH_take (i := 4) (v := ?_) rfl (by kernel_rfl) (by kernel_rfl) (by kernel_rfl) (fun _ _ _ h => h) (Or.inl ⟨by kernel_rfl, ?_⟩) hS ?_
    rotate_left
    · intro w' hSw
      obtain ⟨g0, g1, _⟩ := hSw
      first | (go_simp; done) | (go_simp; with_reducible rfl)
    simp only [List.getElem_toArray, List.getElem_cons_zero, List.getElem_cons_succ, Act.put, List.setIfInBounds_toArray, List.set_cons_zero, List.set_cons_succ]
    refine wpAnyH_ready (rs := [1]) (by kernel_rfl) (List.cons_ne_nil _ _) ?_
    refine AllReadyH.cons rfl (fun K hK => ?_) AllReadyH.nil
    go_simp
    go_at_call 17
    refine (to_ranges _ _ _ _ (HA.out.kept (hS.2.2)) hl).mono ?_
    rintro e w2 ⟨rfl, hg, ho⟩
    have H2 := Lib.hid (rg_own ho)
    refine hK.out _ _ (⟨hg.cell (hS.1) (by simp), hg.cell (hS.2.1) (by simp), grownBy_trans (hS.2.2) hg⟩) (fun hS => ?_)
    clear hK
    try simp only [List.getElem_toArray, List.getElem_cons_zero, List.getElem_cons_succ, Act.put, List.setIfInBounds_toArray, List.set_cons_zero, List.set_cons_succ]
    refine wpAnyH_ready (rs := [3]) (by kernel_rfl) (List.cons_ne_nil _ _) ?_
    refine AllReadyH.cons rfl (fun K hK => ?_) AllReadyH.nil
    go_simp
    go_at_call 21
    refine (to_range _ _ _).mono ?_
    rintro e w2b ⟨rfl, hg⟩
    have H2b := Lib.hid (H2.out.kept hg)
    refine hK.out _ _ (⟨hg.cell (hS.1) (by simp), hg.cell (hS.2.1) (by simp), grownBy_trans (hS.2.2) hg⟩) (fun hS => ?_)
    clear hK
    try simp only [List.getElem_toArray, List.getElem_cons_zero, List.getElem_cons_succ, Act.put, List.setIfInBounds_toArray, List.set_cons_zero, List.set_cons_succ]
    refine wpAnyH_ready (rs := [5]) (by kernel_rfl) (List.cons_ne_nil _ _) ?_
    refine AllReadyH.cons rfl (fun K hK => ?_) AllReadyH.nil
    go_simp
    go_at_call 20
    refine (add_spec _ _ _ _ _ _ _ H2b.out (by omega)).mono ?_
    rintro e w3 ⟨a3, c3, rfl, hg, ho⟩
    have HO := Lib.hid ho
    refine hK.out _ _ (⟨hg.cell (hS.1) (by simp), hg.cell (hS.2.1) (by simp), grownBy_trans (hS.2.2) hg⟩) (fun hS => ?_)
    clear hK
    try simp only [List.getElem_toArray, List.getElem_cons_zero, List.getElem_cons_succ, Act.put, List.setIfInBounds_toArray, List.set_cons_zero, List.set_cons_succ]
    refine wpAnyH_take (i := 6) (v := ?_) rfl (by kernel_rfl) (by kernel_rfl) (by kernel_rfl) (fun _ _ _ h => h) (Or.inl ⟨by kernel_rfl, ?_⟩) hS ?_
    rotate_left
    · intro w' hSw
      obtain ⟨g0, g1, _⟩ := hSw
      first | (go_simp; done) | (go_simp; with_reducible rfl)
    simp only [List.getElem_toArray, List.getElem_cons_zero, List.getElem_cons_succ, Act.put, List.setIfInBounds_toArray, List.set_cons_zero, List.set_cons_succ]
    refine wpAnyH_take (i := 7) (v := ?_) rfl (by kernel_rfl) (by kernel_rfl) (by kernel_rfl) (fun _ _ _ h => h) (Or.inl ⟨by kernel_rfl, ?_⟩) hS ?_
    rotate_left
    · intro w' hSw
      obtain ⟨g0, g1, _⟩ := hSw
      first | (go_simp; done) | (go_simp; with_reducible rfl)
    simp only [List.getElem_toArray, List.getElem_cons_zero, List.getElem_cons_succ, Act.put, List.setIfInBounds_toArray, List.set_cons_zero, List.set_cons_succ]
    refine wpAnyH_take (i := 8) (v := ?_) rfl (by kernel_rfl) (by kernel_rfl) (by kernel_rfl) (fun _ _ _ h => h) (Or.inl ⟨by kernel_rfl, ?_⟩) hS ?_
    rotate_left
    · intro w' hSw
      obtain ⟨g0, g1, _⟩ := hSw
      first | (go_simp; done) | (go_simp; with_reducible rfl)
    simp only [List.getElem_toArray, List.getElem_cons_zero, List.getElem_cons_succ, Act.put, List.setIfInBounds_toArray, List.set_cons_zero, List.set_cons_succ]
    refine wpAnyH_take (i := 9) (v := ?_) rfl (by kernel_rfl) (by kernel_rfl) (by kernel_rfl) (fun _ _ _ h => h) (Or.inl ⟨by kernel_rfl, ?_⟩) hS ?_
    rotate_left
    · intro w' hSw
      obtain ⟨g0, g1, _⟩ := hSw
      first | (go_simp; done) | (go_simp; with_reducible rfl)
    simp only [List.getElem_toArray, List.getElem_cons_zero, List.getElem_cons_succ, Act.put, List.setIfInBounds_toArray, List.set_cons_zero, List.set_cons_succ]
    refine wpAnyH_take (i := 10) (v := ?_) rfl (by kernel_rfl) (by kernel_rfl) (by kernel_rfl) (fun _ _ _ h => h) (Or.inl ⟨by kernel_rfl, ?_⟩) hS ?_
    rotate_left
    · intro w' hSw
      obtain ⟨g0, g1, _⟩ := hSw
      first | (go_simp; done) | (go_simp; with_reducible rfl)
    simp only [List.getElem_toArray, List.getElem_cons_zero, List.getElem_cons_succ, Act.put, List.setIfInBounds_toArray, List.set_cons_zero, List.set_cons_succ]
    refine wpAnyH_done (by kernel_rfl) ?_ _
    have hgw := hS.2.2
    have H3 := Lib.hid (And.intro hgw (And.intro HO.out (HB.out.1.keep hgw)))
    clear hgw hS b0 b1
    have HAI := Lib.hid (show ∀ (W : World) (b : Option Addr) (cb : Nat), RgAt W b l0 → Calls Try.prog 22 #[.slice b l0.length cb, .agg #[.int .i64 a1_0, .int .i64 a1_1], .int .i64 a2] W (fun e w' => ∃ ao co, e = .returned (.tuple #[.slice ao (addL l0 (a1_0, a1_1) a2).length co, .bool (addOk l0 (a1_0, a1_1) a2)]) ∧ W.grownBy w' none ∧ OwnRg w' W.heap.size ao co (addL l0 (a1_0, a1_1) a2)) from fun W b cb h => add_impl _ _ _ _ _ _ _ h (by omega))
    generalize addOk l0 (a1_0, a1_1) a2 = D at *
    generalize addL l0 (a1_0, a1_1) a2 = L at *
    have hL2 : ¬ 1 + 2 * (L.length : Int) < 0 := by omega
    go_wp2_with fail
    refine (to_ranges _ _ _ _ (HA.out.kept H3.out.1) hl).mono ?_
    rintro e w4 ⟨rfl, hg, ho⟩
    have H4 := Lib.hid (And.intro (grownBy_trans H3.out.1 hg) (And.intro ho (And.intro (own_kept H3.out.2.1 hg) (own_apart1 H3.out.2.1 ho (Nat.le_refl _)))))
    have HB4 := Lib.hid (H3.out.2.2.keep hg)
    have b0 := HB4.out.c 0 rfl
    have b1 := HB4.out.c 1 rfl
    clear hg ho
    go_wp2_with fail
    refine (to_range _ _ _).mono ?_
    rintro e w4b ⟨rfl, hg⟩
    have H4b := Lib.hid (And.intro (grownBy_trans H4.out.1 hg) (And.intro (own_kept H4.out.2.1 hg) (own_kept H4.out.2.2.1 hg)))
    clear hg
    go_wp2_with fail
    refine (HAI.out _ _ _ (rg_own H4b.out.2.1)).mono ?_
    rintro e w5 ⟨a5, c5, rfl, hg, ho⟩
    have H5 := Lib.hid (And.intro (grownBy_trans H4b.out.1 hg) (And.intro (own_kept H4b.out.2.1 hg) (And.intro (own_kept H4b.out.2.2 hg) (And.intro ho (And.intro (own_apart2 H4b.out.2.1 ho (Nat.le_refl _)) (own_apart1 H4b.out.2.2 ho (Nat.le_refl _)))))))
    have H3s := Lib.hid (show wb.heap.size ≤ w3.heap.size from H3.out.1.size)
    have H4s := Lib.hid (show wb.heap.size ≤ w4b.heap.size from H4b.out.1.size)
    clear hg ho
    go_wp2_with fail
    refine (eq_ranges _ _ _ _ _ _ (rg_own H5.out.2.2.2.1) (rg_own H5.out.2.2.1) (by omega)).mono ?_
    rintro e w6 ⟨rfl, hg⟩
    have H6 := Lib.hid (And.intro (grownBy_trans H5.out.1 hg) (And.intro (own_kept H5.out.2.1 hg) (And.intro (own_kept H5.out.2.2.1 hg) (own_kept H5.out.2.2.2.1 hg))))
    clear hg
    go_wp2_with fail
    refine (to_ranges _ _ _ _ (HA.out.kept H6.out.1) hl).mono ?_
    rintro e w7 ⟨rfl, hg, hp⟩
    have H7 := Lib.hid (And.intro (grownBy_trans H6.out.1 hg) (And.intro (own_kept H6.out.2.1 hg) (And.intro (own_kept H6.out.2.2.1 hg) (And.intro (own_kept H6.out.2.2.2 hg) hp))))
    clear hg hp
    go_wp2_with fail
    refine (eq_ranges _ _ _ _ _ _ (rg_own H7.out.2.1) (rg_own H7.out.2.2.2.2) hl).mono ?_
    rintro e w8 ⟨rfl, hg⟩
    have H8 := Lib.hid (And.intro (grownBy_trans H7.out.1 hg) (And.intro (own_kept H7.out.2.1 hg) (And.intro (own_kept H7.out.2.2.1 hg) (own_kept H7.out.2.2.2.1 hg))))
    clear hg
    go_wp2_with fail
    refine (rmark_any 1 (by omega) (by omega) _ _ _ _ _ hl H8.out.2.1).mono ?_
    rintro e w9 ⟨rfl, hg, ho⟩
    have H9 := Lib.hid (And.intro (grown_row_none H8.out.1 hg H8.out.2.1 H3s.out) (And.intro (H8.out.2.2.1.kept hg H4.out.2.2.2) (H8.out.2.2.2.kept hg H5.out.2.2.2.2.1)))
    clear hg ho
    go_wp2_with fail
    refine (eq_ranges _ _ _ _ _ _ (rg_own H9.out.2.2) (rg_own H9.out.2.1) (by omega)).mono ?_
    rintro e w10 ⟨rfl, hg⟩
    have H10 := Lib.hid (And.intro (grownBy_trans H9.out.1 hg) (And.intro (own_kept H9.out.2.1 hg) (own_kept H9.out.2.2 hg)))
    clear hg
    go_wp2_with fail
    refine (rmark_any 1 (by omega) (by omega) _ _ _ _ _ (by omega) H10.out.2.2).mono ?_
    rintro e w11 ⟨rfl, hg, ho⟩
    have H11 := Lib.hid (And.intro (grown_row_none H10.out.1 hg H10.out.2.2 H4s.out) (And.intro (H10.out.2.1.kept hg H5.out.2.2.2.2.2) ho))
    clear hg ho
    go_wp2_with fail
    refine (rheld_any 1 (by omega) (by omega) _ _ _ _ (rg_mark H11.out.2.2) (by omega)).mono ?_
    rintro e w12 ⟨rfl, hg⟩
    have H12 := Lib.hid (And.intro (grownBy_trans H11.out.1 hg) (And.intro (own_kept H11.out.2.1 hg) (own_kept H11.out.2.2 hg)))
    clear hg
    go_wp2_with fail
    have HB12 := Lib.hid (HB.out.1.keep H12.out.1)
    have b0 := HB12.out.c 0 rfl
    have b1 := HB12.out.c 1 rfl
    refine wp_region_held_drew (S := fun w' => w'.cell? ⟨w.heap.size, 0, none⟩ = some (.int .i64 a1_0) ∧ w'.cell? ⟨w.heap.size, 1, none⟩ = some (.int .i64 a1_1) ∧ w12.grownBy w' none) (by kernel_rfl) (⟨by first | assumption | (go_simp; done) | (simp [*]; done), by first | assumption | (go_simp; done) | (simp [*]; done), grownBy_trans (World.grownBy.refl _ _) grownBy_drew⟩) (fun hS => ?_)
    refine wpAnyH_take (i := 0) (v := ?_) rfl (by kernel_rfl) (by kernel_rfl) (by kernel_rfl) (fun _ _ _ h => h) (Or.inl ⟨by kernel_rfl, ?_⟩) hS ?_
    rotate_left
    · intro w' hSw
      obtain ⟨g0, g1, _⟩ := hSw
      first | (go_simp; done) | (go_simp; with_reducible rfl)
    simp only [List.getElem_toArray, List.getElem_cons_zero, Act.put, List.setIfInBounds_toArray, List.set_cons_zero, List.set_cons_succ]
    refine wpAnyH_take (i := 2) (v := ?_) rfl (by kernel_rfl) (by kernel_rfl) (by kernel_rfl) (fun _ _ _ h => h) (Or.inl ⟨by kernel_rfl, ?_⟩) hS ?_
    rotate_left
    · intro w' hSw
      obtain ⟨g0, g1, _⟩ := hSw
      first | (go_simp; done) | (go_simp; with_reducible rfl)
    simp only [List.getElem_toArray, List.getElem_cons_zero, List.getElem_cons_succ, Act.put, List.setIfInBounds_toArray, List.set_cons_zero, List.set_cons_succ]
    refine wpAnyH_take (i := 4) (v := ?_) rfl (by kernel_rfl) (by kernel_rfl) (by kernel_rfl) (fun _ _ _ h => h) (Or.inl ⟨by kernel_rfl, ?_⟩) hS ?_
    rotate_left
    · intro w' hSw
      obtain ⟨g0, g1, _⟩ := hSw
      first | (go_simp; done) | (go_simp; with_reducible rfl)
    simp only [List.getElem_toArray, List.getElem_cons_zero, List.getElem_cons_succ, Act.put, List.setIfInBounds_toArray, List.set_cons_zero, List.set_cons_succ]
    refine wpAnyH_ready (rs := [1]) (by kernel_rfl) (List.cons_ne_nil _ _) ?_
    refine AllReadyH.cons rfl (fun K hK => ?_) AllReadyH.nil
    go_simp
    go_at_call 17
    refine (to_ranges _ _ _ _ (HA.out.kept (grownBy_trans H12.out.1 (hS.2.2))) hl).mono ?_
    rintro e w13 ⟨rfl, hg, ho⟩
    have H13 := Lib.hid (rg_own ho)
    refine hK.out _ _ (⟨hg.cell (hS.1) (by simp), hg.cell (hS.2.1) (by simp), grownBy_trans (hS.2.2) hg⟩) (fun hS => ?_)
    clear hK
    try simp only [List.getElem_toArray, List.getElem_cons_zero, List.getElem_cons_succ, Act.put, List.setIfInBounds_toArray, List.set_cons_zero, List.set_cons_succ]
    refine wpAnyH_ready (rs := [3]) (by kernel_rfl) (List.cons_ne_nil _ _) ?_
    refine AllReadyH.cons rfl (fun K hK => ?_) AllReadyH.nil
    go_simp
    go_at_call 21
    refine (to_range _ _ _).mono ?_
    rintro e w13b ⟨rfl, hg⟩
    have H13b := Lib.hid (H13.out.kept hg)
    refine hK.out _ _ (⟨hg.cell (hS.1) (by simp), hg.cell (hS.2.1) (by simp), grownBy_trans (hS.2.2) hg⟩) (fun hS => ?_)
    clear hK
    try simp only [List.getElem_toArray, List.getElem_cons_zero, List.getElem_cons_succ, Act.put, List.setIfInBounds_toArray, List.set_cons_zero, List.set_cons_succ]
    refine wpAnyH_ready (rs := [5]) (by kernel_rfl) (List.cons_ne_nil _ _) ?_
    refine AllReadyH.cons rfl (fun K hK => ?_) AllReadyH.nil
    go_simp
    go_at_call 22
    refine (HAI.out _ _ _ H13b.out).mono ?_
    rintro e w14 ⟨a14, c14, rfl, hg, ho⟩
    have HO14 := Lib.hid ho
    refine hK.out _ _ (⟨hg.cell (hS.1) (by simp), hg.cell (hS.2.1) (by simp), grownBy_trans (hS.2.2) hg⟩) (fun hS => ?_)
    clear hK
    try simp only [List.getElem_toArray, List.getElem_cons_zero, List.getElem_cons_succ, Act.put, List.setIfInBounds_toArray, List.set_cons_zero, List.set_cons_succ]
    refine wpAnyH_take (i := 6) (v := ?_) rfl (by kernel_rfl) (by kernel_rfl) (by kernel_rfl) (fun _ _ _ h => h) (Or.inl ⟨by kernel_rfl, ?_⟩) hS ?_
    rotate_left
    · intro w' hSw
      obtain ⟨g0, g1, _⟩ := hSw
      first | (go_simp; done) | (go_simp; with_reducible rfl)
    simp only [List.getElem_toArray, List.getElem_cons_zero, List.getElem_cons_succ, Act.put, List.setIfInBounds_toArray, List.set_cons_zero, List.set_cons_succ]
    refine wpAnyH_take (i := 7) (v := ?_) rfl (by kernel_rfl) (by kernel_rfl) (by kernel_rfl) (fun _ _ _ h => h) (Or.inl ⟨by kernel_rfl, ?_⟩) hS ?_
    rotate_left
    · intro w' hSw
      obtain ⟨g0, g1, _⟩ := hSw
      first | (go_simp; done) | (go_simp; with_reducible rfl)
    simp only [List.getElem_toArray, List.getElem_cons_zero, List.getElem_cons_succ, Act.put, List.setIfInBounds_toArray, List.set_cons_zero, List.set_cons_succ]
    refine wpAnyH_take (i := 8) (v := ?_) rfl (by kernel_rfl) (by kernel_rfl) (by kernel_rfl) (fun _ _ _ h => h) (Or.inl ⟨by kernel_rfl, ?_⟩) hS ?_
    rotate_left
    · intro w' hSw
      obtain ⟨g0, g1, _⟩ := hSw
      first | (go_simp; done) | (go_simp; with_reducible rfl)
    simp only [List.getElem_toArray, List.getElem_cons_zero, List.getElem_cons_succ, Act.put, List.setIfInBounds_toArray, List.set_cons_zero, List.set_cons_succ]
    refine wpAnyH_take (i := 9) (v := ?_) rfl (by kernel_rfl) (by kernel_rfl) (by kernel_rfl) (fun _ _ _ h => h) (Or.inl ⟨by kernel_rfl, ?_⟩) hS ?_
    rotate_left
    · intro w' hSw
      obtain ⟨g0, g1, _⟩ := hSw
      first | (go_simp; done) | (go_simp; with_reducible rfl)
    simp only [List.getElem_toArray, List.getElem_cons_zero, List.getElem_cons_succ, Act.put, List.setIfInBounds_toArray, List.set_cons_zero, List.set_cons_succ]
    refine wpAnyH_take (i := 10) (v := ?_) rfl (by kernel_rfl) (by kernel_rfl) (by kernel_rfl) (fun _ _ _ h => h) (Or.inl ⟨by kernel_rfl, ?_⟩) hS ?_
    rotate_left
    · intro w' hSw
      obtain ⟨g0, g1, _⟩ := hSw
      first | (go_simp; done) | (go_simp; with_reducible rfl)
    simp only [List.getElem_toArray, List.getElem_cons_zero, List.getElem_cons_succ, Act.put, List.setIfInBounds_toArray, List.set_cons_zero, List.set_cons_succ]
    refine wpAnyH_done (by kernel_rfl) ?_ _
    have hgw := hS.2.2
    have H14 := Lib.hid (And.intro (grownBy_trans H12.out.1 hgw) (And.intro (own_kept H12.out.2.1 hgw) (And.intro (own_kept H12.out.2.2 hgw) HO14.out)))
    clear hgw hS
    go_wp2_with fail
    refine (eq_ranges _ _ _ _ _ _ (rg_own H14.out.2.2.2) (rg_own H14.out.2.1) (by omega)).mono ?_
    rintro e w15 ⟨rfl, hg⟩
    have H15 := Lib.hid (And.intro (grownBy_trans H14.out.1 hg) (own_kept H14.out.2.2.1 hg))
    clear hg
    go_wp2_with fail
    refine (rheld_any 1 (by omega) (by omega) _ _ _ _ (rg_mark H15.out.2) (by omega)).mono ?_
    rintro e w16 ⟨rfl, hg⟩
    have H16 := Lib.hid (grownBy_trans H15.out.1 hg)
    clear hg
    go_wp2_with fail
    go_ret
    exact ⟨rfl, below_new (grownBy_trans HB.out.2 H16.out)⟩
  · rw [if_neg hn]
    go_wp2_with fail
    go_ret
    exact ⟨rfl, below_new HB.out.2⟩

set_option maxRecDepth 100000 in
theorem lifted (os : Os) (started : os.Started) (H : Type) (enc : TypeId × Value → H) :
    ReturnsInHanded {} Try.checked os 4 .any (Rows.fnExactFilterAddSpec.pre6 enc Try.prog Try.f4 Rows.fnExactFilterAddRow.domain false) (Rows.fnExactFilterAddSpec.post enc Try.prog Try.f4 false true false false) := by
  refine returnsInHanded_of_change (C := Try.checked) own started (by kernel_rfl) Try.func4
    (ChangeSpec.witness6 (enc := enc) (C := Try.checked) false ⟨#[], #[.slice none 0 0, .agg #[.int .i64 0, .int .i64 0], .int .i64 0], []⟩ 8 (by kernel_rfl) (by kernel_rfl) (by kernel_rfl) (by kernel_rfl)) ?_
  intro W base args ds gs before hval0 hW hcnd _
  have hval : ∀ (j : Nat) t v, Try.f4.params[j]? = some t → args[j]? = some v → Value.okWide Try.prog W .any base t v := hval0
  have hW' := hW
  obtain ⟨p, q, hA0, hV, rfl, hfz, hnd⟩ := hW
  have hA : DataW.TrodAll enc Try.prog W 0 (fun _ => true) true Try.f4.params.toList args.toList ds p := hA0
  rw [Try.params4] at hA hval
  obtain ⟨v0, vs0, d0, ds0, p0, q0, hargs, rfl, rfl, h0, r0⟩ := trodAll_cons hA
  obtain ⟨v1, vs1, d1, ds1, p1, q1, rfl, rfl, rfl, h1, r1⟩ := trodAll_cons r0
  obtain ⟨v2, vs2, d2, ds2, p2, q2, rfl, rfl, rfl, h2, r2⟩ := trodAll_cons r1
  obtain ⟨rfl, rfl, rfl⟩ := trodAll_nil r2
  obtain rfl : args = #[v0, v1, v2] := by cases args; simp_all
  obtain ⟨rfl, rfl⟩ := trodVars_none hV
  have k0 := h0
  have lt0 : ∀ x ∈ p0, x.block < W.heap.size := by obtain ⟨m, hm⟩ := k0; exact DataW.trod_lt m _ _ _ hm
  obtain ⟨a0, len0, cap0, rfl⟩ := okWide_slice Try.underlying22 (hval 0 22 v0 rfl rfl)
  obtain ⟨l0, e0, w0, n0⟩ : ∃ l : List Rg, l.length = len0 ∧ RgAt W a0 l ∧ l.length ≤ maxLen := by
    obtain ⟨fuel, hf⟩ := h0
    rcases Deep.open_slice_pairs Try.underlying22 Try.underlying30 cells30 rfl rfl (by kernel_rfl) (by kernel_rfl) hf with ⟨hcs, _⟩ | ⟨x, l, c, m, n, V0, V1, D0, D1, P0, P1, hcs, _, hl, hm, hmm, _, hall⟩
    · simp [Value.cells] at hcs
      obtain ⟨rfl, rfl, rfl⟩ := hcs
      exact ⟨[], rfl, .inl rfl, Nat.zero_le _⟩
    · simp [Value.cells] at hcs
      obtain ⟨rfl, rfl, rfl⟩ := hcs
      have hmc : m = cap0 := by simpa using hmm
      obtain ⟨ps, hlen, hps⟩ := list_of (P := fun i (p : Rg) => W.cell? (x.add (i * 2)) = some (.int .i64 p.1) ∧ W.cell? (x.add (i * 2 + 1)) = some (.int .i64 p.2)) len0 (fun i hi => by
        obtain ⟨c0, c1, t0, t1⟩ := hall i (by omega)
        obtain ⟨u, e0, _, wu⟩ := DataW.trod_int Try.underlying2 t0
        obtain ⟨s, e1, _, ws⟩ := DataW.trod_int Try.underlying2 t1
        simp only [List.cons.injEq, and_true] at e0 e1
        rw [e0] at c0
        rw [e1] at c1
        exact ⟨(u, s), c0, c1⟩)
      exact ⟨ps, hlen, rgAt_of fun i hi => ⟨(hps i hi).1, (hps i hi).2⟩, by omega⟩
  subst e0
  have k1 := h1
  have lt1 : ∀ x ∈ p1, x.block < W.heap.size := by obtain ⟨m, hm⟩ := k1; exact DataW.trod_lt m _ _ _ hm
  obtain ⟨c1_0, c1_1, y1_0, y1_1, m1, rfl, rfl, rfl, hy1_0, hy1_1⟩ := open_agg2 Try.underlying30 (by kernel_rfl) cells30 (hval 1 30 v1 rfl rfl) h1
  obtain ⟨a1_0, e1_0, rfl, w1_0⟩ := DataW.trod_int Try.underlying2 hy1_0
  simp only [List.cons.injEq, and_true] at e1_0
  subst e1_0
  obtain ⟨a1_1, e1_1, rfl, w1_1⟩ := DataW.trod_int Try.underlying2 hy1_1
  simp only [List.cons.injEq, and_true] at e1_1
  subst e1_1
  have k2 := h2
  have lt2 : ∀ x ∈ p2, x.block < W.heap.size := by obtain ⟨m, hm⟩ := k2; exact DataW.trod_lt m _ _ _ hm
  obtain ⟨a2, rfl, rfl, rfl, w2⟩ := open_int Try.underlying2 (hval 2 2 v2 rfl rfl) h2
  clear hA0 hval0
  refine (walk a0 cap0 l0 a1_0 a1_1 a2 W w0 n0 w1_0 w1_1 w2).mono fun e W' ⟨he, bel⟩ => ?_
  subst he
  exact ⟨_, rfl, _, _, _, [], _, [], hW', trodAll_mk1 (shut_bool Try.underlying4 _), (trodAll_cons_mk (Below.trod laidOut (by kernel_rfl) (of_decide_eq_true (by kernel_rfl)) k0 bel lt0) (trodAll_cons_mk (Below.trod laidOut (by kernel_rfl) (of_decide_eq_true (by kernel_rfl)) k1 bel lt1) (trodAll_cons_mk (Below.trod laidOut (by kernel_rfl) (of_decide_eq_true (by kernel_rfl)) k2 bel lt2) trodAll_mk0))), rfl, bel.frame _, fun h => by cases h⟩

theorem over : Rows.fnExactFilterAddRow.holds Try.pinned (OpenSpec.ofChange Rows.fnExactFilterAddSpec) :=
  OpenClaim.holds_of_wide 4 Try.f4 rfl rfl rfl rfl rfl rfl rfl ⟨rfl, rfl, rfl, rfl, rfl⟩ rfl rfl rfl rfl rfl (by kernel_rfl) Try.func4 (by kernel_rfl)
    (of_decide_eq_true (by kernel_rfl)) (by unfold Func.isWrapper; first | (rw [if_pos (by decide +kernel)]; kernel_rfl) | (rw [if_neg (by decide +kernel)]; exact ⟨rfl, rfl⟩))
    (fun os started H enc _ => lifted os started H enc)

theorem proved : Rows.FnExactFilterAddSaid := over
end Go.Proofs.Ytgaipihoonkdoaa.fnExactFilterAdd
