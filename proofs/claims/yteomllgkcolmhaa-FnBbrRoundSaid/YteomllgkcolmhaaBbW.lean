/- States of pipes: what a pipe holds, the window; both. -/
import Derived.Test.YteomllgkcolmhaaBbS
namespace Go.Proofs.Yteomllgkcolmhaa
open Go.RowKit

set_option maxRecDepth 100000 in
set_option maxHeartbeats 1000000 in
theorem pipe_impl (p : Int) (a : Option Addr) (c : Nat) (l : List Rg) (r f0 s t : Int) (w : World) (h : RgAt w a l) (hf : flP l) (hr : 1 ≤ r ∧ r ≤ 60000) : Calls Try.prog 34 #[bbV p a l.length c r f0 s t] w fun e w' => e = .returned (.int .i64 (pipeF l r)) ∧ w.grownBy w' none := by
  have H := Lib.hid h
  have HB := Lib.hid (And.intro (Bx.new w 26 (bbC p a l.length c r f0 s t)) (World.grownBy_alloc w (.cells (bbC p a l.length c r f0 s t) 26) none))
  clear h
  have b1 := HB.out.1.c 1 rfl
  have b2 := HB.out.1.c 2 rfl
  have hlen := hf.1
  obtain ⟨hp0, hp1, hp2, hp3⟩ := pipe_bd l r hr
  rcases Nat.eq_zero_or_pos l.length with h0 | h0
  · have HV := Lib.hid (show pipeF l r = 0 by obtain rfl := List.length_eq_zero_iff.mp h0; simp [pipeF, rateF, bestF])
    have HE := Lib.hid (show bestF l = -1 by obtain rfl := List.length_eq_zero_iff.mp h0; rfl)
    clear h0 hf
    clear hp0 hp1 hp2 hp3
    go_enter Try.func34, Try.ntmps34
    go_wp2_with fail
    refine wp_region_held_drew (S := fun w' => w'.cell? ⟨w.heap.size, 1, none⟩ = some (.slice a l.length c) ∧ w'.cell? ⟨w.heap.size, 2, none⟩ = some (.int .i64 r) ∧ w.grownBy w' none) (by kernel_rfl) (⟨by first | assumption | (go_simp; done) | (simp [*]; done), by first | assumption | (go_simp; done) | (simp [*]; done), grownBy_trans HB.out.2 grownBy_drew⟩) (fun hS => ?_)
    refine wpAnyH_take (i := 0) (v := ?_) rfl (by kernel_rfl) (by kernel_rfl) (by kernel_rfl) (fun _ _ _ h => h) (Or.inl ⟨by kernel_rfl, ?_⟩) hS ?_
    rotate_left
    · intro w' hSw
      obtain ⟨g0, g1, _⟩ := hSw
      first | (go_simp; done) | (go_simp; with_reducible rfl)
    simp only [List.getElem_toArray, List.getElem_cons_zero, Act.put, List.setIfInBounds_toArray, List.set_cons_zero, List.set_cons_succ]
    refine wpAnyH_take (i := 1) (v := ?_) rfl (by kernel_rfl) (by kernel_rfl) (by kernel_rfl) (fun _ _ _ h => h) (Or.inl ⟨by kernel_rfl, ?_⟩) hS ?_
    rotate_left
    · intro w' hSw
      obtain ⟨g0, g1, _⟩ := hSw
      first | (go_simp; done) | (go_simp; with_reducible rfl)
    simp only [List.getElem_toArray, List.getElem_cons_zero, List.getElem_cons_succ, Act.put, List.setIfInBounds_toArray, List.set_cons_zero, List.set_cons_succ]
    refine wpAnyH_take (i := 4) (v := ?_) rfl (by kernel_rfl) (by kernel_rfl) (by kernel_rfl) (fun _ _ _ h => h) (Or.inl ⟨by kernel_rfl, ?_⟩) hS ?_
    rotate_left
    · intro w' hSw
      obtain ⟨g0, g1, _⟩ := hSw
      first | (go_simp; done) | (go_simp; with_reducible rfl)
    simp only [List.getElem_toArray, List.getElem_cons_zero, List.getElem_cons_succ, Act.put, List.setIfInBounds_toArray, List.set_cons_zero, List.set_cons_succ]
    refine wpAnyH_take (i := 5) (v := ?_) rfl (by kernel_rfl) (by kernel_rfl) (by kernel_rfl) (fun _ _ _ h => h) (Or.inl ⟨by kernel_rfl, ?_⟩) hS ?_
    rotate_left
    · intro w' hSw
      obtain ⟨g0, g1, _⟩ := hSw
      first | (go_simp; done) | (go_simp; with_reducible rfl)
    simp only [List.getElem_toArray, List.getElem_cons_zero, List.getElem_cons_succ, Act.put, List.setIfInBounds_toArray, List.set_cons_zero, List.set_cons_succ]
    refine wpAnyH_ready (rs := [2]) (by kernel_rfl) (List.cons_ne_nil _ _) ?_
    refine AllReadyH.cons rfl (fun K hK => ?_) AllReadyH.nil
    go_simp
    go_at_call 16
    refine (best_impl _ _ _ _ (H.out.kept hS.2.2) (by omega)).mono ?_
    rintro e w9 ⟨rfl, hg⟩
    rw [HE.out]
    refine hK.out _ _ ⟨hg.cell (hS.1) (by simp), hg.cell (hS.2.1) (by simp), grownBy_trans (hS.2.2) hg⟩ (fun hS => ?_)
    clear hK
    try simp only [List.getElem_toArray, List.getElem_cons_zero, List.getElem_cons_succ, Act.put, List.setIfInBounds_toArray, List.set_cons_zero, List.set_cons_succ]
    refine wpAnyH_take (i := 3) (v := ?_) rfl (by kernel_rfl) (by kernel_rfl) (by kernel_rfl) (fun _ _ _ h => h) (Or.inl ⟨by kernel_rfl, ?_⟩) hS ?_
    rotate_left
    · intro w' hSw
      obtain ⟨g0, g1, _⟩ := hSw
      first | (go_simp; done) | (go_simp; with_reducible rfl)
    simp only [List.getElem_toArray, List.getElem_cons_zero, List.getElem_cons_succ, Act.put, List.setIfInBounds_toArray, List.set_cons_zero, List.set_cons_succ]
    refine wpAnyH_take (i := 6) (v := ?_) rfl (by kernel_rfl) (by kernel_rfl) (by kernel_rfl) (fun _ _ _ h => h) (Or.inl ⟨by kernel_rfl, ?_⟩) hS ?_
    rotate_left
    · intro w' hSw
      obtain ⟨g0, g1, _⟩ := hSw
      first | (go_simp; done) | (go_simp; with_reducible rfl)
    simp only [List.getElem_toArray, List.getElem_cons_zero, List.getElem_cons_succ, Act.put, List.setIfInBounds_toArray, List.set_cons_zero, List.set_cons_succ]
    refine wpAnyH_take (i := 7) (v := ?_) rfl (by kernel_rfl) (by kernel_rfl) (by kernel_rfl) (fun _ _ _ h => h) (Or.inl ⟨by kernel_rfl, ?_⟩) hS ?_
    rotate_left
    · intro w' hSw
      obtain ⟨g0, g1, _⟩ := hSw
      first | (go_simp; done) | (go_simp; with_reducible rfl)
    simp only [List.getElem_toArray, List.getElem_cons_zero, List.getElem_cons_succ, Act.put, List.setIfInBounds_toArray, List.set_cons_zero, List.set_cons_succ]
    refine wpAnyH_take (i := 8) (v := ?_) rfl (by kernel_rfl) (by kernel_rfl) (by kernel_rfl) (fun _ _ _ h => h) (Or.inl ⟨by kernel_rfl, ?_⟩) hS ?_
    rotate_left
    · intro w' hSw
      obtain ⟨g0, g1, _⟩ := hSw
      first | (go_simp; done) | (go_simp; with_reducible rfl)
    simp only [List.getElem_toArray, List.getElem_cons_zero, List.getElem_cons_succ, Act.put, List.setIfInBounds_toArray, List.set_cons_zero, List.set_cons_succ]
    refine wpAnyH_done (by kernel_rfl) ?_ _
    have hgw := hS.2.2
    go_wp2_with fail
    go_ret
    exact ⟨ret_i HV.out.symm, hgw⟩
  · have HV := Lib.hid (show pipeF l r = (rateF l) * r / 1000 from rfl)
    have hbb := rate_bd l
    have HE := Lib.hid (show bestF l = rateF l by rw [rate_at hf h0, bestF_yes hf h0])
    clear hf h0
    generalize rateF l = y at *
    obtain ⟨hb0, hb1⟩ := hbb
    have hb2 : ¬ y < 0 := by omega
    have hb3 : max y 0 = y := by omega
    have hw1 : IntKind.i64.wrap (y * r) = y * r := wq (by omega)
    have hw2 : IntKind.i64.wrap ((y * r).tdiv 1000) = y * r / 1000 := by rw [Int.tdiv_eq_ediv_of_nonneg hp2]; exact wq (by omega)
    by_cases hb4 : y = 0
    · subst hb4
      clear hb2 hb3
      go_enter Try.func34, Try.ntmps34
      go_wp2_with fail
      refine wp_region_held_drew (S := fun w' => w'.cell? ⟨w.heap.size, 1, none⟩ = some (.slice a l.length c) ∧ w'.cell? ⟨w.heap.size, 2, none⟩ = some (.int .i64 r) ∧ w.grownBy w' none) (by kernel_rfl) (⟨by first | assumption | (go_simp; done) | (simp [*]; done), by first | assumption | (go_simp; done) | (simp [*]; done), grownBy_trans HB.out.2 grownBy_drew⟩) (fun hS => ?_)
      refine wpAnyH_take (i := 0) (v := ?_) rfl (by kernel_rfl) (by kernel_rfl) (by kernel_rfl) (fun _ _ _ h => h) (Or.inl ⟨by kernel_rfl, ?_⟩) hS ?_
      rotate_left
      · intro w' hSw
        obtain ⟨g0, g1, _⟩ := hSw
        first | (go_simp; done) | (go_simp; with_reducible rfl)
      simp only [List.getElem_toArray, List.getElem_cons_zero, Act.put, List.setIfInBounds_toArray, List.set_cons_zero, List.set_cons_succ]
      refine wpAnyH_take (i := 1) (v := ?_) rfl (by kernel_rfl) (by kernel_rfl) (by kernel_rfl) (fun _ _ _ h => h) (Or.inl ⟨by kernel_rfl, ?_⟩) hS ?_
      rotate_left
      · intro w' hSw
        obtain ⟨g0, g1, _⟩ := hSw
        first | (go_simp; done) | (go_simp; with_reducible rfl)
      simp only [List.getElem_toArray, List.getElem_cons_zero, List.getElem_cons_succ, Act.put, List.setIfInBounds_toArray, List.set_cons_zero, List.set_cons_succ]
      refine wpAnyH_take (i := 4) (v := ?_) rfl (by kernel_rfl) (by kernel_rfl) (by kernel_rfl) (fun _ _ _ h => h) (Or.inl ⟨by kernel_rfl, ?_⟩) hS ?_
      rotate_left
      · intro w' hSw
        obtain ⟨g0, g1, _⟩ := hSw
        first | (go_simp; done) | (go_simp; with_reducible rfl)
      simp only [List.getElem_toArray, List.getElem_cons_zero, List.getElem_cons_succ, Act.put, List.setIfInBounds_toArray, List.set_cons_zero, List.set_cons_succ]
      refine wpAnyH_take (i := 5) (v := ?_) rfl (by kernel_rfl) (by kernel_rfl) (by kernel_rfl) (fun _ _ _ h => h) (Or.inl ⟨by kernel_rfl, ?_⟩) hS ?_
      rotate_left
      · intro w' hSw
        obtain ⟨g0, g1, _⟩ := hSw
        first | (go_simp; done) | (go_simp; with_reducible rfl)
      simp only [List.getElem_toArray, List.getElem_cons_zero, List.getElem_cons_succ, Act.put, List.setIfInBounds_toArray, List.set_cons_zero, List.set_cons_succ]
      refine wpAnyH_ready (rs := [2]) (by kernel_rfl) (List.cons_ne_nil _ _) ?_
      refine AllReadyH.cons rfl (fun K hK => ?_) AllReadyH.nil
      go_simp
      go_at_call 16
      refine (best_impl _ _ _ _ (H.out.kept hS.2.2) (by omega)).mono ?_
      rintro e w9 ⟨rfl, hg⟩
      rw [HE.out]
      refine hK.out _ _ ⟨hg.cell (hS.1) (by simp), hg.cell (hS.2.1) (by simp), grownBy_trans (hS.2.2) hg⟩ (fun hS => ?_)
      clear hK
      try simp only [List.getElem_toArray, List.getElem_cons_zero, List.getElem_cons_succ, Act.put, List.setIfInBounds_toArray, List.set_cons_zero, List.set_cons_succ]
      refine wpAnyH_take (i := 3) (v := ?_) rfl (by kernel_rfl) (by kernel_rfl) (by kernel_rfl) (fun _ _ _ h => h) (Or.inl ⟨by kernel_rfl, ?_⟩) hS ?_
      rotate_left
      · intro w' hSw
        obtain ⟨g0, g1, _⟩ := hSw
        first | (go_simp; done) | (go_simp; with_reducible rfl)
      simp only [List.getElem_toArray, List.getElem_cons_zero, List.getElem_cons_succ, Act.put, List.setIfInBounds_toArray, List.set_cons_zero, List.set_cons_succ]
      refine wpAnyH_take (i := 6) (v := ?_) rfl (by kernel_rfl) (by kernel_rfl) (by kernel_rfl) (fun _ _ _ h => h) (Or.inl ⟨by kernel_rfl, ?_⟩) hS ?_
      rotate_left
      · intro w' hSw
        obtain ⟨g0, g1, _⟩ := hSw
        first | (go_simp; done) | (go_simp; with_reducible rfl)
      simp only [List.getElem_toArray, List.getElem_cons_zero, List.getElem_cons_succ, Act.put, List.setIfInBounds_toArray, List.set_cons_zero, List.set_cons_succ]
      refine wpAnyH_take (i := 7) (v := ?_) rfl (by kernel_rfl) (by kernel_rfl) (by kernel_rfl) (fun _ _ _ h => h) (Or.inl ⟨by kernel_rfl, ?_⟩) hS ?_
      rotate_left
      · intro w' hSw
        obtain ⟨g0, g1, _⟩ := hSw
        first | (go_simp; done) | (go_simp; with_reducible rfl)
      simp only [List.getElem_toArray, List.getElem_cons_zero, List.getElem_cons_succ, Act.put, List.setIfInBounds_toArray, List.set_cons_zero, List.set_cons_succ]
      refine wpAnyH_take (i := 8) (v := ?_) rfl (by kernel_rfl) (by kernel_rfl) (by kernel_rfl) (fun _ _ _ h => h) (Or.inl ⟨by kernel_rfl, ?_⟩) hS ?_
      rotate_left
      · intro w' hSw
        obtain ⟨g0, g1, _⟩ := hSw
        first | (go_simp; done) | (go_simp; with_reducible rfl)
      simp only [List.getElem_toArray, List.getElem_cons_zero, List.getElem_cons_succ, Act.put, List.setIfInBounds_toArray, List.set_cons_zero, List.set_cons_succ]
      refine wpAnyH_done (by kernel_rfl) ?_ _
      have hgw := hS.2.2
      go_wp2_with fail
      go_ret
      exact ⟨ret_i (by rw [HV.out]; first | (simp; done) | (simp; rfl) | (simp; decide)), hgw⟩
    · have hb5 : 0 < y := by omega
      have hb6 : ¬ y ≤ 0 := by omega
      go_enter Try.func34, Try.ntmps34
      go_wp2_with fail
      refine wp_region_held_drew (S := fun w' => w'.cell? ⟨w.heap.size, 1, none⟩ = some (.slice a l.length c) ∧ w'.cell? ⟨w.heap.size, 2, none⟩ = some (.int .i64 r) ∧ w.grownBy w' none) (by kernel_rfl) (⟨by first | assumption | (go_simp; done) | (simp [*]; done), by first | assumption | (go_simp; done) | (simp [*]; done), grownBy_trans HB.out.2 grownBy_drew⟩) (fun hS => ?_)
      refine wpAnyH_take (i := 0) (v := ?_) rfl (by kernel_rfl) (by kernel_rfl) (by kernel_rfl) (fun _ _ _ h => h) (Or.inl ⟨by kernel_rfl, ?_⟩) hS ?_
      rotate_left
      · intro w' hSw
        obtain ⟨g0, g1, _⟩ := hSw
        first | (go_simp; done) | (go_simp; with_reducible rfl)
      simp only [List.getElem_toArray, List.getElem_cons_zero, Act.put, List.setIfInBounds_toArray, List.set_cons_zero, List.set_cons_succ]
      refine wpAnyH_take (i := 1) (v := ?_) rfl (by kernel_rfl) (by kernel_rfl) (by kernel_rfl) (fun _ _ _ h => h) (Or.inl ⟨by kernel_rfl, ?_⟩) hS ?_
      rotate_left
      · intro w' hSw
        obtain ⟨g0, g1, _⟩ := hSw
        first | (go_simp; done) | (go_simp; with_reducible rfl)
      simp only [List.getElem_toArray, List.getElem_cons_zero, List.getElem_cons_succ, Act.put, List.setIfInBounds_toArray, List.set_cons_zero, List.set_cons_succ]
      refine wpAnyH_take (i := 4) (v := ?_) rfl (by kernel_rfl) (by kernel_rfl) (by kernel_rfl) (fun _ _ _ h => h) (Or.inl ⟨by kernel_rfl, ?_⟩) hS ?_
      rotate_left
      · intro w' hSw
        obtain ⟨g0, g1, _⟩ := hSw
        first | (go_simp; done) | (go_simp; with_reducible rfl)
      simp only [List.getElem_toArray, List.getElem_cons_zero, List.getElem_cons_succ, Act.put, List.setIfInBounds_toArray, List.set_cons_zero, List.set_cons_succ]
      refine wpAnyH_take (i := 5) (v := ?_) rfl (by kernel_rfl) (by kernel_rfl) (by kernel_rfl) (fun _ _ _ h => h) (Or.inl ⟨by kernel_rfl, ?_⟩) hS ?_
      rotate_left
      · intro w' hSw
        obtain ⟨g0, g1, _⟩ := hSw
        first | (go_simp; done) | (go_simp; with_reducible rfl)
      simp only [List.getElem_toArray, List.getElem_cons_zero, List.getElem_cons_succ, Act.put, List.setIfInBounds_toArray, List.set_cons_zero, List.set_cons_succ]
      refine wpAnyH_ready (rs := [2]) (by kernel_rfl) (List.cons_ne_nil _ _) ?_
      refine AllReadyH.cons rfl (fun K hK => ?_) AllReadyH.nil
      go_simp
      go_at_call 16
      refine (best_impl _ _ _ _ (H.out.kept hS.2.2) (by omega)).mono ?_
      rintro e w9 ⟨rfl, hg⟩
      rw [HE.out]
      refine hK.out _ _ ⟨hg.cell (hS.1) (by simp), hg.cell (hS.2.1) (by simp), grownBy_trans (hS.2.2) hg⟩ (fun hS => ?_)
      clear hK
      try simp only [List.getElem_toArray, List.getElem_cons_zero, List.getElem_cons_succ, Act.put, List.setIfInBounds_toArray, List.set_cons_zero, List.set_cons_succ]
      refine wpAnyH_take (i := 3) (v := ?_) rfl (by kernel_rfl) (by kernel_rfl) (by kernel_rfl) (fun _ _ _ h => h) (Or.inl ⟨by kernel_rfl, ?_⟩) hS ?_
      rotate_left
      · intro w' hSw
        obtain ⟨g0, g1, _⟩ := hSw
        first | (go_simp; done) | (go_simp; with_reducible rfl)
      simp only [List.getElem_toArray, List.getElem_cons_zero, List.getElem_cons_succ, Act.put, List.setIfInBounds_toArray, List.set_cons_zero, List.set_cons_succ]
      refine wpAnyH_take (i := 6) (v := ?_) rfl (by kernel_rfl) (by kernel_rfl) (by kernel_rfl) (fun _ _ _ h => h) (Or.inl ⟨by kernel_rfl, ?_⟩) hS ?_
      rotate_left
      · intro w' hSw
        obtain ⟨g0, g1, _⟩ := hSw
        first | (go_simp; done) | (go_simp; with_reducible rfl)
      simp only [List.getElem_toArray, List.getElem_cons_zero, List.getElem_cons_succ, Act.put, List.setIfInBounds_toArray, List.set_cons_zero, List.set_cons_succ]
      refine wpAnyH_take (i := 7) (v := ?_) rfl (by kernel_rfl) (by kernel_rfl) (by kernel_rfl) (fun _ _ _ h => h) (Or.inl ⟨by kernel_rfl, ?_⟩) hS ?_
      rotate_left
      · intro w' hSw
        obtain ⟨g0, g1, _⟩ := hSw
        first | (go_simp; done) | (go_simp; with_reducible rfl)
      simp only [List.getElem_toArray, List.getElem_cons_zero, List.getElem_cons_succ, Act.put, List.setIfInBounds_toArray, List.set_cons_zero, List.set_cons_succ]
      refine wpAnyH_take (i := 8) (v := ?_) rfl (by kernel_rfl) (by kernel_rfl) (by kernel_rfl) (fun _ _ _ h => h) (Or.inl ⟨by kernel_rfl, ?_⟩) hS ?_
      rotate_left
      · intro w' hSw
        obtain ⟨g0, g1, _⟩ := hSw
        first | (go_simp; done) | (go_simp; with_reducible rfl)
      simp only [List.getElem_toArray, List.getElem_cons_zero, List.getElem_cons_succ, Act.put, List.setIfInBounds_toArray, List.set_cons_zero, List.set_cons_succ]
      refine wpAnyH_done (by kernel_rfl) ?_ _
      have hgw := hS.2.2
      go_wp2_with fail
      go_ret
      exact ⟨ret_i HV.out.symm, hgw⟩

set_option maxRecDepth 100000 in
set_option maxHeartbeats 1000000 in
theorem pipe_spec (p : Int) (a : Option Addr) (c : Nat) (l : List Rg) (r f0 s t : Int) (w : World) (h : RgAt w a l) (hf : flP l) (hr : 1 ≤ r ∧ r ≤ 60000) : Calls Try.prog 29 #[bbV p a l.length c r f0 s t] w fun e w' => e = .returned (.int .i64 (pipeF l r)) ∧ w.grownBy w' none := by
  have H := Lib.hid h
  have HB := Lib.hid (And.intro (Bx.new w 26 (bbC p a l.length c r f0 s t)) (World.grownBy_alloc w (.cells (bbC p a l.length c r f0 s t) 26) none))
  clear h
  have b1 := HB.out.1.c 1 rfl
  have b2 := HB.out.1.c 2 rfl
  have hlen := hf.1
  obtain ⟨hp0, hp1, hp2, hp3⟩ := pipe_bd l r hr
  rcases Nat.eq_zero_or_pos l.length with h0 | h0
  · obtain rfl := List.length_eq_zero_iff.mp h0
    have HV := Lib.hid (show pipeF [] r = 0 by simp [pipeF, rateF, bestF])
    clear h0 hf hp0 hp1 hp2 hp3
    go_enter Try.func29, Try.ntmps29
    go_wp2_with fail
    go_ret
    exact ⟨ret_i HV.out.symm, HB.out.2⟩
  · have HV := Lib.hid (show pipeF l r = (l[0]).2 * r / 1000 by rw [pipeF, rate_at hf h0])
    have hbb := rate_bd l
    rw [rate_at hf h0] at hbb hp2 hp3
    have h1 : ¬ (l.length : Int) = 0 := by omega
    have h2 : (0 : Int) < (l.length : Int) := by omega
    have h3 : ((l.length : Int) == 0) = false := beq_false_of_ne h1
    rcases (H.out.kept HB.out.2) with hn | ⟨b, off, rfl, hb, hc⟩
    · rw [hn] at h0; simp at h0
    · obtain ⟨c0, c1⟩ := hc 0 h0
      simp only [Nat.zero_mul, Nat.add_zero] at c0 c1
      clear hc hf hp0 hp1
      generalize l[0] = x at *
      obtain ⟨tt, y⟩ := x
      dsimp only at c0 c1 hbb hp2 hp3
      obtain ⟨hb0, hb1⟩ := hbb
      have hw1 : IntKind.i64.wrap (y * r) = y * r := wq (by omega)
      have hw2 : IntKind.i64.wrap ((y * r).tdiv 1000) = y * r / 1000 := by rw [Int.tdiv_eq_ediv_of_nonneg hp2]; exact wq (by omega)
      go_enter Try.func29, Try.ntmps29
      go_wp2_with fail
      go_quiet (fail)
      go_wp2_with fail
      go_ret
      exact ⟨ret_i HV.out.symm, grownBy_trans HB.out.2 (grownBy_drewN _)⟩

set_option maxRecDepth 100000 in
set_option maxHeartbeats 1000000 in
theorem th_any (p : Int) (a : Option Addr) (c : Nat) (l : List Rg) (r f s t : Int) (w : World) : Calls Try.prog 35 #[bbV p a l.length c r f s t] w fun e w' => e = .returned (.int .i64 (thF p t)) ∧ w.grownBy w' none := by
  unfold thF
  by_cases p1 : p = 1
  · subst p1
    go_enter Try.func35, Try.ntmps35
    go_wp2
    go_ret
    exact ⟨rfl, World.grownBy_alloc _ _ _⟩
  · have q1 : (p == 1) = false := beq_false_of_ne p1
    rw [if_neg p1]
    by_cases p2 : p = 2
    · subst p2
      go_enter Try.func35, Try.ntmps35
      go_wp2
      go_ret
      exact ⟨rfl, World.grownBy_alloc _ _ _⟩
    · have q2 : (p == 2) = false := beq_false_of_ne p2
      rw [if_neg p2]
      by_cases t0 : t = 0
      · subst t0
        go_enter Try.func35, Try.ntmps35
        go_wp2
        go_ret
        exact ⟨rfl, World.grownBy_alloc _ _ _⟩
      · have q3 : (t == 0) = false := beq_false_of_ne t0
        rw [if_neg t0]
        by_cases t1 : t = 1
        · subst t1
          go_enter Try.func35, Try.ntmps35
          go_wp2
          go_ret
          exact ⟨rfl, World.grownBy_alloc _ _ _⟩
        · have q4 : (t == 1) = false := beq_false_of_ne t1
          rw [if_neg t1]
          go_enter Try.func35, Try.ntmps35
          go_wp2
          go_ret
          exact ⟨rfl, World.grownBy_alloc _ _ _⟩

set_option maxRecDepth 100000 in
set_option maxHeartbeats 2000000 in
theorem win_impl (p : Int) (a : Option Addr) (c : Nat) (l : List Rg) (r f s t : Int) (w : World) (h : RgAt w a l) (hl0 : (l.length : Int) ≤ 9223372036854775807) : Calls Try.prog 14 #[bbV p a l.length c r f s t] w fun e w' => e = .returned (.int .i64 (winF p l r f s t)) ∧ w.grownBy w' none := by
  have H := Lib.hid h
  have HB := Lib.hid (And.intro (Bx.new w 26 (bbC p a l.length c r f s t)) (World.grownBy_alloc w (.cells (bbC p a l.length c r f s t) 26) none))
  clear h
  cases hok : bbOk p l r f s t
  · have HOK := Lib.hid hok
    have HV := Lib.hid (show winF p l r f s t = -1 by rw [winF, hok]; rfl)
    clear hok
    go_enter Try.func14, Try.ntmps14
    go_wp2_with fail
    refine (bb_ok_impl _ _ _ _ _ _ _ _ _ (H.out.kept HB.out.2) hl0).mono ?_
    rintro e w1 ⟨rfl, hg⟩
    rw [HOK.out]
    have H1 := Lib.hid (grownBy_trans HB.out.2 hg)
    clear hg
    go_wp2_with fail
    go_ret
    exact ⟨ret_i HV.out.symm, H1.out⟩
  · have HOK := Lib.hid hok
    have HO := Lib.hid (bb_of hok)
    have HV := Lib.hid (show winF p l r f s t = pipeF l r * thF p t / 1000 + 4 by rw [winF, hok]; rfl)
    obtain ⟨hp0, hp1, hp2, hp3⟩ := pipe_bd l r (bb_of hok).2.1
    clear hok hp2 hp3
    have hth := th_bd p t
    generalize hpi : pipeF l r = y at *
    generalize htt : thF p t = z at *
    have HPI := Lib.hid hpi
    have HTH := Lib.hid htt
    clear hpi htt
    have hm0 : 0 ≤ y * z := Int.mul_nonneg hp0 hth.1
    have hm1 : y * z ≤ 60000000000 * 2885 := Int.mul_le_mul hp1 hth.2 hth.1 (by omega)
    have hw1 : IntKind.i64.wrap (y * z) = y * z := wq (by omega)
    have hw2 : IntKind.i64.wrap ((y * z).tdiv 1000) = y * z / 1000 := by rw [Int.tdiv_eq_ediv_of_nonneg hm0]; exact wq (by omega)
    have hw3 : IntKind.i64.wrap (y * z / 1000 + 4) = y * z / 1000 + 4 := wq (by omega)
    go_enter Try.func14, Try.ntmps14
    go_wp2_with fail
    refine (bb_ok_impl _ _ _ _ _ _ _ _ _ (H.out.kept HB.out.2) hl0).mono ?_
    rintro e w1 ⟨rfl, hg⟩
    rw [HOK.out]
    have H1 := Lib.hid (And.intro (grownBy_trans HB.out.2 hg) (HB.out.1.keep hg))
    clear hg
    have b0 := (H1.out.2).c 0 rfl
    have b1 := (H1.out.2).c 1 rfl
    have b2 := (H1.out.2).c 2 rfl
    have b3 := (H1.out.2).c 3 rfl
    have b4 := (H1.out.2).c 4 rfl
    have b5 := (H1.out.2).c 5 rfl
    go_wp2_with fail
    refine wp_region_held_drew (S := fun w' => w'.cell? ⟨w.heap.size, 0, none⟩ = some (.int .i64 p) ∧ w'.cell? ⟨w.heap.size, 1, none⟩ = some (.slice a l.length c) ∧ w'.cell? ⟨w.heap.size, 2, none⟩ = some (.int .i64 r) ∧ w'.cell? ⟨w.heap.size, 3, none⟩ = some (.int .i64 f) ∧ w'.cell? ⟨w.heap.size, 4, none⟩ = some (.int .i64 s) ∧ w'.cell? ⟨w.heap.size, 5, none⟩ = some (.int .i64 t) ∧ w.grownBy w' none) (by kernel_rfl) (⟨by first | assumption | (go_simp; done) | (simp [*]; done), by first | assumption | (go_simp; done) | (simp [*]; done), by first | assumption | (go_simp; done) | (simp [*]; done), by first | assumption | (go_simp; done) | (simp [*]; done), by first | assumption | (go_simp; done) | (simp [*]; done), by first | assumption | (go_simp; done) | (simp [*]; done), grownBy_trans H1.out.1 grownBy_drew⟩) (fun hS => ?_)
    refine wpAnyH_take (i := 0) (v := ?_) rfl (by kernel_rfl) (by kernel_rfl) (by kernel_rfl) (fun _ _ _ h => h) (Or.inl ⟨by kernel_rfl, ?_⟩) hS ?_
    rotate_left
    · intro w' hSw
      obtain ⟨g0, g1, g2, g3, g4, g5, _⟩ := hSw
      first | (go_simp; done) | (go_simp; with_reducible rfl)
    simp only [List.getElem_toArray, List.getElem_cons_zero, Act.put, List.setIfInBounds_toArray, List.set_cons_zero, List.set_cons_succ]
    refine wpAnyH_take (i := 2) (v := ?_) rfl (by kernel_rfl) (by kernel_rfl) (by kernel_rfl) (fun _ _ _ h => h) (Or.inl ⟨by kernel_rfl, ?_⟩) hS ?_
    rotate_left
    · intro w' hSw
      obtain ⟨g0, g1, g2, g3, g4, g5, _⟩ := hSw
      first | (go_simp; done) | (go_simp; with_reducible rfl)
    simp only [List.getElem_toArray, List.getElem_cons_zero, List.getElem_cons_succ, Act.put, List.setIfInBounds_toArray, List.set_cons_zero, List.set_cons_succ]
    refine wpAnyH_ready (rs := [1]) (by kernel_rfl) (List.cons_ne_nil _ _) ?_
    refine AllReadyH.cons rfl (fun K hK => ?_) AllReadyH.nil
    go_simp
    go_at_call 34
    refine (pipe_impl _ _ _ _ _ _ _ _ _ (H.out.kept (hS.2.2.2.2.2.2)) HO.out.1 HO.out.2.1).mono ?_
    rintro e w9 ⟨rfl, hg⟩
    rw [HPI.out]
    refine hK.out _ _ ⟨hg.cell (hS.1) (by simp), hg.cell (hS.2.1) (by simp), hg.cell (hS.2.2.1) (by simp), hg.cell (hS.2.2.2.1) (by simp), hg.cell (hS.2.2.2.2.1) (by simp), hg.cell (hS.2.2.2.2.2.1) (by simp), grownBy_trans (hS.2.2.2.2.2.2) hg⟩ (fun hS => ?_)
    clear hK
    try simp only [List.getElem_toArray, List.getElem_cons_zero, List.getElem_cons_succ, Act.put, List.setIfInBounds_toArray, List.set_cons_zero, List.set_cons_succ]
    refine wpAnyH_ready (rs := [3]) (by kernel_rfl) (List.cons_ne_nil _ _) ?_
    refine AllReadyH.cons rfl (fun K hK => ?_) AllReadyH.nil
    go_simp
    go_at_call 35
    refine (th_any _ _ _ _ _ _ _ _ _).mono ?_
    rintro e w9 ⟨rfl, hg⟩
    rw [HTH.out]
    refine hK.out _ _ ⟨hg.cell (hS.1) (by simp), hg.cell (hS.2.1) (by simp), hg.cell (hS.2.2.1) (by simp), hg.cell (hS.2.2.2.1) (by simp), hg.cell (hS.2.2.2.2.1) (by simp), hg.cell (hS.2.2.2.2.2.1) (by simp), grownBy_trans (hS.2.2.2.2.2.2) hg⟩ (fun hS => ?_)
    clear hK
    try simp only [List.getElem_toArray, List.getElem_cons_zero, List.getElem_cons_succ, Act.put, List.setIfInBounds_toArray, List.set_cons_zero, List.set_cons_succ]
    refine wpAnyH_take (i := 4) (v := ?_) rfl (by kernel_rfl) (by kernel_rfl) (by kernel_rfl) (fun _ _ _ h => h) (Or.inl ⟨by kernel_rfl, ?_⟩) hS ?_
    rotate_left
    · intro w' hSw
      obtain ⟨g0, g1, g2, g3, g4, g5, _⟩ := hSw
      first | (go_simp; done) | (go_simp; with_reducible rfl)
    simp only [List.getElem_toArray, List.getElem_cons_zero, List.getElem_cons_succ, Act.put, List.setIfInBounds_toArray, List.set_cons_zero, List.set_cons_succ]
    refine wpAnyH_take (i := 5) (v := ?_) rfl (by kernel_rfl) (by kernel_rfl) (by kernel_rfl) (fun _ _ _ h => h) (Or.inl ⟨by kernel_rfl, ?_⟩) hS ?_
    rotate_left
    · intro w' hSw
      obtain ⟨g0, g1, g2, g3, g4, g5, _⟩ := hSw
      first | (go_simp; done) | (go_simp; with_reducible rfl)
    simp only [List.getElem_toArray, List.getElem_cons_zero, List.getElem_cons_succ, Act.put, List.setIfInBounds_toArray, List.set_cons_zero, List.set_cons_succ]
    refine wpAnyH_take (i := 6) (v := ?_) rfl (by kernel_rfl) (by kernel_rfl) (by kernel_rfl) (fun _ _ _ h => h) (Or.inl ⟨by kernel_rfl, ?_⟩) hS ?_
    rotate_left
    · intro w' hSw
      obtain ⟨g0, g1, g2, g3, g4, g5, _⟩ := hSw
      first | (go_simp; done) | (go_simp; with_reducible rfl)
    simp only [List.getElem_toArray, List.getElem_cons_zero, List.getElem_cons_succ, Act.put, List.setIfInBounds_toArray, List.set_cons_zero, List.set_cons_succ]
    refine wpAnyH_take (i := 7) (v := ?_) rfl (by kernel_rfl) (by kernel_rfl) (by kernel_rfl) (fun _ _ _ h => h) (Or.inl ⟨by kernel_rfl, ?_⟩) hS ?_
    rotate_left
    · intro w' hSw
      obtain ⟨g0, g1, g2, g3, g4, g5, _⟩ := hSw
      first | (go_simp; done) | (go_simp; with_reducible rfl)
    simp only [List.getElem_toArray, List.getElem_cons_zero, List.getElem_cons_succ, Act.put, List.setIfInBounds_toArray, List.set_cons_zero, List.set_cons_succ]
    refine wpAnyH_done (by kernel_rfl) ?_ _
    have hgw := hS.2.2.2.2.2.2
    go_wp2_with fail
    go_ret
    exact ⟨ret_i HV.out.symm, hgw⟩

set_option maxRecDepth 100000 in
set_option maxHeartbeats 2000000 in
theorem win_spec (p : Int) (a : Option Addr) (c : Nat) (l : List Rg) (r f s t : Int) (w : World) (h : RgAt w a l) (hl0 : (l.length : Int) ≤ 9223372036854775807) : Calls Try.prog 15 #[bbV p a l.length c r f s t] w fun e w' => e = .returned (.int .i64 (winF p l r f s t)) ∧ w.grownBy w' none := by
  have H := Lib.hid h
  have HB := Lib.hid (And.intro (Bx.new w 26 (bbC p a l.length c r f s t)) (World.grownBy_alloc w (.cells (bbC p a l.length c r f s t) 26) none))
  clear h
  cases hok : bbOk p l r f s t
  · have HOK := Lib.hid hok
    have HV := Lib.hid (show winF p l r f s t = -1 by rw [winF, hok]; rfl)
    clear hok
    go_enter Try.func15, Try.ntmps15
    go_wp2_with fail
    refine (bb_ok_spec _ _ _ _ _ _ _ _ _ (H.out.kept HB.out.2) hl0).mono ?_
    rintro e w1 ⟨rfl, hg⟩
    rw [HOK.out]
    have H1 := Lib.hid (grownBy_trans HB.out.2 hg)
    clear hg
    go_wp2_with fail
    go_ret
    exact ⟨ret_i HV.out.symm, H1.out⟩
  · have HOK := Lib.hid hok
    have HO := Lib.hid (bb_of hok)
    have HV := Lib.hid (show winF p l r f s t = pipeF l r * thF p t / 1000 + 4 by rw [winF, hok]; rfl)
    obtain ⟨hp0, hp1, hp2, hp3⟩ := pipe_bd l r (bb_of hok).2.1
    clear hok hp2 hp3
    generalize hpi : pipeF l r = y at *
    have HPI := Lib.hid hpi
    clear hpi
    by_cases p1 : p = 1
    · subst p1
      have hw1 : IntKind.i64.wrap (y * 2885) = y * 2885 := wq (by omega)
      have hw2 : IntKind.i64.wrap ((y * 2885).tdiv 1000) = y * 2885 / 1000 := by rw [Int.tdiv_eq_ediv_of_nonneg (by omega)]; exact wq (by omega)
      have hw3 : IntKind.i64.wrap (y * 2885 / 1000 + 4) = y * 2885 / 1000 + 4 := wq (by omega)
      go_enter Try.func15, Try.ntmps15
      go_wp2_with fail
      refine (bb_ok_spec _ _ _ _ _ _ _ _ _ (H.out.kept HB.out.2) hl0).mono ?_
      rintro e w1 ⟨rfl, hg⟩
      rw [HOK.out]
      have H1 := Lib.hid (And.intro (grownBy_trans HB.out.2 hg) (HB.out.1.keep hg))
      clear hg
      have b0 := (H1.out.2).c 0 rfl
      have b1 := (H1.out.2).c 1 rfl
      have b2 := (H1.out.2).c 2 rfl
      have b3 := (H1.out.2).c 3 rfl
      have b4 := (H1.out.2).c 4 rfl
      have b5 := (H1.out.2).c 5 rfl
      go_wp2_with fail
      refine (pipe_spec _ _ _ _ _ _ _ _ _ (H.out.kept H1.out.1) HO.out.1 HO.out.2.1).mono ?_
      rintro e w2 ⟨rfl, hg⟩
      rw [HPI.out]
      have H2 := Lib.hid (And.intro (grownBy_trans H1.out.1 hg) (H1.out.2.keep hg))
      clear hg b0 b1 b2 b3 b4 b5
      have b0 := (H2.out.2).c 0 rfl
      have b1 := (H2.out.2).c 1 rfl
      have b2 := (H2.out.2).c 2 rfl
      have b3 := (H2.out.2).c 3 rfl
      have b4 := (H2.out.2).c 4 rfl
      have b5 := (H2.out.2).c 5 rfl
      go_wp2_with fail
      go_ret
      refine ⟨ret_i ?_, H2.out.1⟩
      rw [HV.out]
      first | rfl | (simp [thF]; omega) | (simp [thF, *]; omega) | (simp [thF, *]; done)
    · have q1 : (p == 1) = false := beq_false_of_ne p1
      by_cases p2 : p = 2
      · subst p2
        have hw1 : IntKind.i64.wrap (y * 347) = y * 347 := wq (by omega)
        have hw2 : IntKind.i64.wrap ((y * 347).tdiv 1000) = y * 347 / 1000 := by rw [Int.tdiv_eq_ediv_of_nonneg (by omega)]; exact wq (by omega)
        have hw3 : IntKind.i64.wrap (y * 347 / 1000 + 4) = y * 347 / 1000 + 4 := wq (by omega)
        go_enter Try.func15, Try.ntmps15
        go_wp2_with fail
        refine (bb_ok_spec _ _ _ _ _ _ _ _ _ (H.out.kept HB.out.2) hl0).mono ?_
        rintro e w1 ⟨rfl, hg⟩
        rw [HOK.out]
        have H1 := Lib.hid (And.intro (grownBy_trans HB.out.2 hg) (HB.out.1.keep hg))
        clear hg
        have b0 := (H1.out.2).c 0 rfl
        have b1 := (H1.out.2).c 1 rfl
        have b2 := (H1.out.2).c 2 rfl
        have b3 := (H1.out.2).c 3 rfl
        have b4 := (H1.out.2).c 4 rfl
        have b5 := (H1.out.2).c 5 rfl
        go_wp2_with fail
        refine (pipe_spec _ _ _ _ _ _ _ _ _ (H.out.kept H1.out.1) HO.out.1 HO.out.2.1).mono ?_
        rintro e w2 ⟨rfl, hg⟩
        rw [HPI.out]
        have H2 := Lib.hid (And.intro (grownBy_trans H1.out.1 hg) (H1.out.2.keep hg))
        clear hg b0 b1 b2 b3 b4 b5
        have b0 := (H2.out.2).c 0 rfl
        have b1 := (H2.out.2).c 1 rfl
        have b2 := (H2.out.2).c 2 rfl
        have b3 := (H2.out.2).c 3 rfl
        have b4 := (H2.out.2).c 4 rfl
        have b5 := (H2.out.2).c 5 rfl
        go_wp2_with fail
        go_ret
        refine ⟨ret_i ?_, H2.out.1⟩
        rw [HV.out]
        first | rfl | (simp [thF]; omega) | (simp [thF, *]; omega) | (simp [thF, *]; done)
      · have q2 : (p == 2) = false := beq_false_of_ne p2
        by_cases t0 : t = 0
        · subst t0
          have hw1 : IntKind.i64.wrap (y * 5) = y * 5 := wq (by omega)
          have hw2 : IntKind.i64.wrap ((y * 5).tdiv 4) = y * 5 / 4 := by rw [Int.tdiv_eq_ediv_of_nonneg (by omega)]; exact wq (by omega)
          have hw3 : IntKind.i64.wrap (y * 5 / 4 + 4) = y * 5 / 4 + 4 := wq (by omega)
          go_enter Try.func15, Try.ntmps15
          go_wp2_with fail
          refine (bb_ok_spec _ _ _ _ _ _ _ _ _ (H.out.kept HB.out.2) hl0).mono ?_
          rintro e w1 ⟨rfl, hg⟩
          rw [HOK.out]
          have H1 := Lib.hid (And.intro (grownBy_trans HB.out.2 hg) (HB.out.1.keep hg))
          clear hg
          have b0 := (H1.out.2).c 0 rfl
          have b1 := (H1.out.2).c 1 rfl
          have b2 := (H1.out.2).c 2 rfl
          have b3 := (H1.out.2).c 3 rfl
          have b4 := (H1.out.2).c 4 rfl
          have b5 := (H1.out.2).c 5 rfl
          go_wp2_with fail
          refine (pipe_spec _ _ _ _ _ _ _ _ _ (H.out.kept H1.out.1) HO.out.1 HO.out.2.1).mono ?_
          rintro e w2 ⟨rfl, hg⟩
          rw [HPI.out]
          have H2 := Lib.hid (And.intro (grownBy_trans H1.out.1 hg) (H1.out.2.keep hg))
          clear hg b0 b1 b2 b3 b4 b5
          have b0 := (H2.out.2).c 0 rfl
          have b1 := (H2.out.2).c 1 rfl
          have b2 := (H2.out.2).c 2 rfl
          have b3 := (H2.out.2).c 3 rfl
          have b4 := (H2.out.2).c 4 rfl
          have b5 := (H2.out.2).c 5 rfl
          go_wp2_with fail
          go_ret
          refine ⟨ret_i ?_, H2.out.1⟩
          rw [HV.out]
          first | rfl | (simp [thF]; omega) | (simp [thF, *]; omega) | (simp [thF, *]; done)
        · have q3 : (t == 0) = false := beq_false_of_ne t0
          by_cases t1 : t = 1
          · subst t1
            have hw1 : IntKind.i64.wrap (y * 3) = y * 3 := wq (by omega)
            have hw2 : IntKind.i64.wrap ((y * 3).tdiv 4) = y * 3 / 4 := by rw [Int.tdiv_eq_ediv_of_nonneg (by omega)]; exact wq (by omega)
            have hw3 : IntKind.i64.wrap (y * 3 / 4 + 4) = y * 3 / 4 + 4 := wq (by omega)
            go_enter Try.func15, Try.ntmps15
            go_wp2_with fail
            refine (bb_ok_spec _ _ _ _ _ _ _ _ _ (H.out.kept HB.out.2) hl0).mono ?_
            rintro e w1 ⟨rfl, hg⟩
            rw [HOK.out]
            have H1 := Lib.hid (And.intro (grownBy_trans HB.out.2 hg) (HB.out.1.keep hg))
            clear hg
            have b0 := (H1.out.2).c 0 rfl
            have b1 := (H1.out.2).c 1 rfl
            have b2 := (H1.out.2).c 2 rfl
            have b3 := (H1.out.2).c 3 rfl
            have b4 := (H1.out.2).c 4 rfl
            have b5 := (H1.out.2).c 5 rfl
            go_wp2_with fail
            refine (pipe_spec _ _ _ _ _ _ _ _ _ (H.out.kept H1.out.1) HO.out.1 HO.out.2.1).mono ?_
            rintro e w2 ⟨rfl, hg⟩
            rw [HPI.out]
            have H2 := Lib.hid (And.intro (grownBy_trans H1.out.1 hg) (H1.out.2.keep hg))
            clear hg b0 b1 b2 b3 b4 b5
            have b0 := (H2.out.2).c 0 rfl
            have b1 := (H2.out.2).c 1 rfl
            have b2 := (H2.out.2).c 2 rfl
            have b3 := (H2.out.2).c 3 rfl
            have b4 := (H2.out.2).c 4 rfl
            have b5 := (H2.out.2).c 5 rfl
            go_wp2_with fail
            go_ret
            refine ⟨ret_i ?_, H2.out.1⟩
            rw [HV.out]
            first | rfl | (simp [thF]; omega) | (simp [thF, *]; omega) | (simp [thF, *]; done)
          · have q4 : (t == 1) = false := beq_false_of_ne t1
            have hw3 : IntKind.i64.wrap (y + 4) = y + 4 := wq (by omega)
            go_enter Try.func15, Try.ntmps15
            go_wp2_with fail
            refine (bb_ok_spec _ _ _ _ _ _ _ _ _ (H.out.kept HB.out.2) hl0).mono ?_
            rintro e w1 ⟨rfl, hg⟩
            rw [HOK.out]
            have H1 := Lib.hid (And.intro (grownBy_trans HB.out.2 hg) (HB.out.1.keep hg))
            clear hg
            have b0 := (H1.out.2).c 0 rfl
            have b1 := (H1.out.2).c 1 rfl
            have b2 := (H1.out.2).c 2 rfl
            have b3 := (H1.out.2).c 3 rfl
            have b4 := (H1.out.2).c 4 rfl
            have b5 := (H1.out.2).c 5 rfl
            go_wp2_with fail
            refine (pipe_spec _ _ _ _ _ _ _ _ _ (H.out.kept H1.out.1) HO.out.1 HO.out.2.1).mono ?_
            rintro e w2 ⟨rfl, hg⟩
            rw [HPI.out]
            have H2 := Lib.hid (And.intro (grownBy_trans H1.out.1 hg) (H1.out.2.keep hg))
            clear hg b0 b1 b2 b3 b4 b5
            have b0 := (H2.out.2).c 0 rfl
            have b1 := (H2.out.2).c 1 rfl
            have b2 := (H2.out.2).c 2 rfl
            have b3 := (H2.out.2).c 3 rfl
            have b4 := (H2.out.2).c 4 rfl
            have b5 := (H2.out.2).c 5 rfl
            go_wp2_with fail
            go_ret
            refine ⟨ret_i ?_, H2.out.1⟩
            rw [HV.out]
            first | rfl | (simp [thF]; omega) | (simp [thF, *]; omega) | (simp [thF, *]; done)

end Go.Proofs.Yteomllgkcolmhaa
