/- How much is on its way: the program's count and the model's. -/
import Derived.Test.YtedgfiagefhahaaBdS
import Derived.Deep.RegionWith
namespace Go.Proofs.Ytedgfiagefhahaa
open Go.RowKit

def sumR : List Rg → Int
  | [] => 0
  | x :: l => (x.2 - x.1) + sumR l
def cutR (p : Int) (x : Rg) : Int := if x.2 - (if p < x.1 then x.1 else p) < 0 then 0 else x.2 - (if p < x.1 then x.1 else p)
def manyR (p : Int) : List Rg → Int
  | [] => 0
  | x :: l => cutR p x + manyR p l
theorem sumR_app : ∀ l m : List Rg, sumR (l ++ m) = sumR l + sumR m
  | [], m => by simp [sumR]
  | x :: l, m => by
    have := sumR_app l m
    rw [List.cons_append, sumR, sumR]
    omega
theorem manyR_app (p : Int) : ∀ l m : List Rg, manyR p (l ++ m) = manyR p l + manyR p m
  | [], m => by simp [manyR]
  | x :: l, m => by
    have := manyR_app p l m
    rw [List.cons_append, manyR, manyR]
    omega
theorem sumR_next (l : List Rg) (j : Nat) (h : j < l.length) : sumR (l.take (j + 1)) = sumR (l.take j) + ((l[j]).2 - (l[j]).1) := by
  rw [List.take_succ_eq_append_getElem h, sumR_app, sumR, sumR]
  omega
theorem manyR_next (p : Int) (l : List Rg) (j : Nat) (h : j < l.length) : manyR p (l.take (j + 1)) = manyR p (l.take j) + cutR p l[j] := by
  rw [List.take_succ_eq_append_getElem h, manyR_app, manyR, manyR]
  omega
def rgN (x : Rg) : Prop := 0 ≤ x.1 ∧ x.1 ≤ x.2 ∧ x.2 ≤ 1000000000
theorem sumR_bd (l : List Rg) (hp : ∀ x ∈ l, rgN x) : ∀ j, j ≤ l.length → 0 ≤ sumR (l.take j) ∧ sumR (l.take j) ≤ 1000000000 * (j : Int)
  | 0, _ => by simp [sumR]
  | j + 1, h => by
    obtain ⟨a, b⟩ := sumR_bd l hp j (by omega)
    obtain ⟨c, d, e⟩ := hp _ (List.getElem_mem (show j < l.length by omega))
    rw [sumR_next l j (by omega)]
    omega
theorem cutR_bd (p : Int) (x : Rg) (h0 : 0 ≤ p) (hx : rgN x) : 0 ≤ cutR p x ∧ cutR p x ≤ 1000000000 := by
  obtain ⟨c, d, e⟩ := hx
  unfold cutR
  repeat' split
  all_goals omega
theorem manyR_bd (p : Int) (l : List Rg) (h0 : 0 ≤ p) (hp : ∀ x ∈ l, rgN x) : ∀ j, j ≤ l.length → 0 ≤ manyR p (l.take j) ∧ manyR p (l.take j) ≤ 1000000000 * (j : Int)
  | 0, _ => by simp [manyR]
  | j + 1, h => by
    obtain ⟨a, b⟩ := manyR_bd p l h0 hp j (by omega)
    obtain ⟨c, d⟩ := cutR_bd p _ h0 (hp _ (List.getElem_mem (show j < l.length by omega)))
    rw [manyR_next p l j (by omega)]
    omega
theorem many_sum (u n : Int) : ∀ l : List Rg, (∀ x ∈ l, rg1 u n x) → manyR u l = sumR l
  | [], _ => rfl
  | x :: l, h => by
    have h1 := many_sum u n l (fun y hy => h y (List.mem_cons_of_mem _ hy))
    obtain ⟨a, b, c⟩ := h x (List.mem_cons_self ..)
    rw [manyR, sumR, h1, cutR, if_pos a, if_neg (by omega)]
theorem rgN_of {u n : Int} {l : List Rg} (h : bdP u n l) : ∀ x ∈ l, rgN x := fun x hx => by
  obtain ⟨a, b, c⟩ := h.2.2.2.2.1 x hx
  have := h.1
  have := h.2.2.1
  exact ⟨by omega, by omega, by omega⟩

def SumRel (w : World) (l : List Rg) (v i : Value) (wr : World) : Prop :=
  ∃ j : Nat, j ≤ l.length ∧ i = .int .i64 j ∧ v = .int .i64 (sumR (l.take j)) ∧ w.grownBy wr none

set_option maxRecDepth 100000 in
set_option maxHeartbeats 2000000 in
theorem bytes_in (a : Option Addr) (c : Nat) (l : List Rg) (w : World) (h : RgAt w a l) (hp : ∀ x ∈ l, rgN x) (hl : l.length ≤ 1000) : Calls Try.prog 39 #[.slice a l.length c] w fun e w' => e = .returned (.int .i64 (sumR l)) ∧ w.grownBy w' none := by
  have H := Lib.hid (And.intro h hp)
  clear h hp
  go_enter Try.func39, Try.ntmps39
  go_wp2_with fail
  go_loopw [3, 8] (fun v i wr => SumRel w l v i wr) (fun _ i _ => l.length - (intOf i).toNat)
  case atStart => exact ⟨0, Nat.zero_le _, rfl, rfl, World.grownBy.refl _ _⟩
  case round =>
    obtain ⟨j, hj, rfl, rfl, hg⟩ := hrel
    have HS := Lib.hid hg
    clear hg
    by_cases hlt : j < l.length
    · rcases (H.out.1.kept HS.out) with h0 | ⟨b, off, rfl, hb, hc⟩
      · rw [h0] at hlt
        simp at hlt
      · obtain ⟨c0, c1⟩ := hc j hlt
        clear hc
        have hs0 := sumR_bd l H.out.2 j hj
        have HN := Lib.hid (sumR_next l j hlt)
        obtain ⟨p0, p1, p2⟩ := H.out.2 _ (List.getElem_mem hlt)
        generalize l[j] = x at *
        obtain ⟨f, t⟩ := x
        have hlt' : (j : Int) < (l.length : Int) := by omega
        dsimp only at c0 c1 p0 p1 p2
        generalize sumR (List.take j l) = q at *
        have hw1 : IntKind.i64.wrap (t - f) = t - f := IntWalk.i64_in _ (by omega)
        have hw2 : IntKind.i64.wrap (q + (t - f)) = q + (t - f) := IntWalk.i64_in _ (by omega)
        have HQ := Lib.hid (show q + (t - f) = sumR (l.take (j + 1)) by rw [HN.out])
        go_wp2_with fail
        go_roundw
        case rel => exact ⟨j + 1, hlt, by go_num, by rw [← HQ.out], grownBy_trans HS.out (World.grownBy_alloc _ _ _)⟩
        case measure => simp [intOf]; omega
    · obtain rfl : j = l.length := by omega
      go_wp2_with fail
      go_ret
      exact ⟨ret_i (by rw [List.take_length]), HS.out⟩

def ManRel (w : World) (u n : Int) (a : Option Addr) (c : Nat) (l : List Rg) (p : Int) (v i : Value) (wr : World) : Prop :=
  ∃ j : Nat, j ≤ l.length ∧ i = .int .i64 j ∧ v = .int .i64 (manyR p (l.take j)) ∧ Mine w (bdCells w.heap.size (.int .i64 u) (.int .i64 n) (.slice a l.length c)) wr

set_option maxRecDepth 100000 in
set_option maxHeartbeats 4000000 in
theorem many_any (u n : Int) (a : Option Addr) (c : Nat) (l : List Rg) (p : Int) (w : World) (h : RgAt w a l) (hp : ∀ x ∈ l, rgN x) (hl : l.length ≤ 1000) (h0 : 0 ≤ p) (h1 : p ≤ 1000000000) : Calls Try.prog 43 #[bdV u n a l.length c, .int .i64 p] w fun e w' => e = .returned (.int .i64 (manyR p l)) ∧ w.grownBy w' none := by
  have H := Lib.hid (And.intro h hp)
  clear h hp
  have HM := Lib.hid (bd_new w (.int .i64 u) (.int .i64 n) (.slice a l.length c) 26)
  go_enter Try.func43, Try.ntmps43
  go_wp2_with fail
  go_loopw [5, 6] (fun v i wr => ManRel w u n a c l p v i wr) (fun _ i _ => l.length - (intOf i).toNat)
  case atStart => exact ⟨0, Nat.zero_le _, rfl, rfl, HM.out⟩
  case round =>
    obtain ⟨j, hj, rfl, rfl, hm⟩ := hrel
    have HS := Lib.hid hm
    clear hm HM
    obtain ⟨b0, b1, b2⟩ := bd_facts HS.out
    have hB : w.heap.size < wr.heap.size := cell_in b0
    by_cases hlt : j < l.length
    · rcases (H.out.1.kept HS.out.grown) with hnil | ⟨b, off, rfl, hb, hc⟩
      · rw [hnil] at hlt
        simp at hlt
      · obtain ⟨c0, c1⟩ := hc j hlt
        clear hc
        have hs0 := manyR_bd p l h0 H.out.2 j hj
        have HN := Lib.hid (manyR_next p l j hlt)
        obtain ⟨p0, p1, p2⟩ := H.out.2 _ (List.getElem_mem hlt)
        generalize l[j] = x at *
        obtain ⟨f, t⟩ := x
        have hlt' : (j : Int) < (l.length : Int) := by omega
        have hj0 : (0 : Int) ≤ (j : Int) := by omega
        dsimp only at c0 c1 p0 p1 p2
        generalize manyR p (List.take j l) = q at *
        by_cases hpf : p < f
        · have hpf1 : ¬ f ≤ p := by omega
          have hpf2 : ¬ f < p := by omega
          have hpf3 : p ≤ f := by omega
          have hw1 : IntKind.i64.wrap (t - f) = t - f := IntWalk.i64_in _ (by omega)
          have hw2 : IntKind.i64.wrap (q + (t - f)) = q + (t - f) := IntWalk.i64_in _ (by omega)
          by_cases htf : t - f ≤ 0
          · have hd : t - f = 0 := by omega
            have HQ := Lib.hid (show q = manyR p (l.take (j + 1)) by rw [HN.out, cutR, if_pos hpf]; simp only; split <;> omega)
            go_wp2_with fail
            go_quiet (fail)
            go_wp2_with fail
            go_roundw
            case rel => exact ⟨j + 1, hlt, by go_num, by rw [← HQ.out], HS.out.kept (grownBy_drewN _)⟩
            case measure => simp [intOf]; omega
          · have htf1 : 0 < t - f := by omega
            have htf2 : 0 ≤ t - f := by omega
            have htf3 : ¬ t - f < 0 := by omega
            have HQ := Lib.hid (show q + (t - f) = manyR p (l.take (j + 1)) by rw [HN.out, cutR, if_pos hpf]; simp only; split <;> omega)
            go_wp2_with fail
            go_quiet (fail)
            go_wp2_with fail
            go_roundw
            case rel => exact ⟨j + 1, hlt, by go_num, by rw [← HQ.out], HS.out.kept (grownBy_drewN _)⟩
            case measure => simp [intOf]; omega
        · have hpf1 : f ≤ p := by omega
          have hw1 : IntKind.i64.wrap (t - p) = t - p := IntWalk.i64_in _ (by omega)
          have hw2 : IntKind.i64.wrap (q + (t - p)) = q + (t - p) := IntWalk.i64_in _ (by omega)
          have hw3 : IntKind.i64.wrap q = q := IntWalk.i64_in _ (by omega)
          by_cases htf : t - p < 0
          · have htf1 : ¬ 0 < t - p := by omega
            have htf2 : ¬ 0 ≤ t - p := by omega
            have htf3 : t - p ≤ 0 := by omega
            have HQ := Lib.hid (show q = manyR p (l.take (j + 1)) by rw [HN.out, cutR, if_neg hpf]; simp only; split <;> omega)
            go_wp2_with fail
            go_quiet (fail)
            go_wp2_with fail
            go_roundw
            case rel => exact ⟨j + 1, hlt, by go_num, by rw [← HQ.out], HS.out.kept (grownBy_drewN _)⟩
            case measure => simp [intOf]; omega
          · have htf2 : 0 ≤ t - p := by omega
            have HQ := Lib.hid (show q + (t - p) = manyR p (l.take (j + 1)) by rw [HN.out, cutR, if_neg hpf]; simp only; split <;> omega)
            by_cases htf4 : t - p ≤ 0
            · have hd : t - p = 0 := by omega
              go_wp2_with fail
              go_quiet (fail)
              go_wp2_with fail
              go_roundw
              case rel => exact ⟨j + 1, hlt, by go_num, by rw [← HQ.out, hd]; try simp, HS.out.kept (grownBy_drewN _)⟩
              case measure => simp [intOf]; omega
            · have htf5 : 0 < t - p := by omega
              go_wp2_with fail
              go_quiet (fail)
              go_wp2_with fail
              go_roundw
              case rel => exact ⟨j + 1, hlt, by go_num, by rw [← HQ.out], HS.out.kept (grownBy_drewN _)⟩
              case measure => simp [intOf]; omega
    · obtain rfl : j = l.length := by omega
      go_wp2_with fail
      go_ret
      exact ⟨ret_i (by rw [List.take_length]), HS.out.grown⟩

noncomputable def flightL (u n : Int) (l : List Rg) : Int := if bdOk u n l = true then n - u - sumR l else -1

set_option maxRecDepth 100000 in
set_option maxHeartbeats 4000000 in
theorem flight_impl (u n : Int) (a : Option Addr) (c : Nat) (l : List Rg) (w : World) (h : RgAt w a l) : Calls Try.prog 19 #[bdV u n a l.length c] w fun e w' => e = .returned (.int .i64 (flightL u n l)) ∧ w.grownBy w' none := by
  have HM := Lib.hid (bd_new w (.int .i64 u) (.int .i64 n) (.slice a l.length c) 26)
  have H := Lib.hid (h.kept HM.out.grown)
  clear h
  cases hok : bdOk u n l
  · have HE := Lib.hid (show flightL u n l = -1 by simp [flightL, hok])
    go_enter Try.func19, Try.ntmps19
    go_wp2_with fail
    refine (bd_ok_impl _ _ _ _ _ _ H.out).mono ?_
    rintro e w1 ⟨rfl, hg⟩
    rw [hok]
    have HG := Lib.hid (grownBy_trans HM.out.grown hg)
    clear hg
    go_wp2_with fail
    go_ret
    exact ⟨ret_i HE.out.symm, HG.out⟩
  · have HE := Lib.hid (show flightL u n l = n - u - sumR l by simp [flightL, hok])
    have hp := bd_of hok
    have hs := sumR_bd l (rgN_of hp) l.length (Nat.le_refl _)
    rw [List.take_length] at hs
    have hu := hp.1
    have hn := hp.2.1
    have hm := hp.2.2.1
    have hl := hp.2.2.2.1
    have HP := Lib.hid hp
    clear hp
    go_enter Try.func19, Try.ntmps19
    go_wp2_with fail
    refine (bd_ok_impl _ _ _ _ _ _ H.out).mono ?_
    rintro e w1 ⟨rfl, hg⟩
    rw [hok]
    have H1 := Lib.hid (And.intro (HM.out.kept hg) (H.out.kept hg))
    clear hg HM H
    obtain ⟨b0, b1, b2⟩ := bd_facts H1.out.1
    have hw1 : IntKind.i64.wrap (n - u) = n - u := IntWalk.i64_in _ (by omega)
    have hw2 : IntKind.i64.wrap (n - u - sumR l) = n - u - sumR l := IntWalk.i64_in _ (by omega)
    have z0 := grownBy_trans H1.out.1.grown (grownBy_drew (r := none))
    have HB := Lib.hid (H1.out.2.kept (grownBy_drew (r := none)))
    go_wp2_with fail
    go_region_held3 (fun w' => w'.cell? ⟨w.heap.size, 0, none⟩ = some (.int .i64 u) ∧ w'.cell? ⟨w.heap.size, 1, none⟩ = some (.int .i64 n) ∧ w'.cell? ⟨w.heap.size, 2, none⟩ = some (.slice a l.length c) ∧ w.grownBy w' none) ((refine ⟨by first | assumption | (simp [*]; done), by first | assumption | (simp [*]; done), by first | assumption | (simp [*]; done), by assumption⟩))
      (first
        | (go_at_call 39; refine (bytes_in _ _ _ _ HB.out (rgN_of HP.out) (by omega)).mono ?_; rintro e w9 ⟨rfl, hg⟩; have q0 := hg.cell (a := ⟨w.heap.size, 0, none⟩) (v := .int .i64 u) (by first | assumption | (simp [*]; done)) (by simp); have q1 := hg.cell (a := ⟨w.heap.size, 1, none⟩) (v := .int .i64 n) (by first | assumption | (simp [*]; done)) (by simp); have q2 := hg.cell (a := ⟨w.heap.size, 2, none⟩) (v := .slice a l.length c) (by first | assumption | (simp [*]; done)) (by simp); have q4 := grownBy_trans (a := w) (by assumption) hg))
    go_wp2_with fail
    go_ret
    exact ⟨ret_i HE.out.symm, by assumption⟩

set_option maxRecDepth 100000 in
set_option maxHeartbeats 4000000 in
theorem flight_spec (u n : Int) (a : Option Addr) (c : Nat) (l : List Rg) (w : World) (h : RgAt w a l) (hl0 : l.length ≤ 9223372036854775807) : Calls Try.prog 25 #[bdV u n a l.length c] w fun e w' => e = .returned (.int .i64 (flightL u n l)) ∧ w.grownBy w' none := by
  have HM := Lib.hid (bd_new w (.int .i64 u) (.int .i64 n) (.slice a l.length c) 26)
  have H := Lib.hid (h.kept HM.out.grown)
  clear h
  cases hok : bdOk u n l
  · have HE := Lib.hid (show flightL u n l = -1 by simp [flightL, hok])
    go_enter Try.func25, Try.ntmps25
    go_wp2_with fail
    refine (bd_ok_spec _ _ _ _ _ _ H.out hl0).mono ?_
    rintro e w1 ⟨rfl, hg⟩
    rw [hok]
    have HG := Lib.hid (grownBy_trans HM.out.grown hg)
    clear hg
    go_wp2_with fail
    go_ret
    exact ⟨ret_i HE.out.symm, HG.out⟩
  · have HE := Lib.hid (show flightL u n l = n - u - sumR l by simp [flightL, hok])
    have hp := bd_of hok
    have hs := sumR_bd l (rgN_of hp) l.length (Nat.le_refl _)
    rw [List.take_length] at hs
    have hu := hp.1
    have hn := hp.2.1
    have hm := hp.2.2.1
    have hl := hp.2.2.2.1
    have HT := Lib.hid (many_sum u n l hp.2.2.2.2.1)
    have HP := Lib.hid hp
    clear hp
    go_enter Try.func25, Try.ntmps25
    go_wp2_with fail
    refine (bd_ok_spec _ _ _ _ _ _ H.out hl0).mono ?_
    rintro e w1 ⟨rfl, hg⟩
    rw [hok]
    have H1 := Lib.hid (And.intro (HM.out.kept hg) (H.out.kept hg))
    clear hg HM H
    obtain ⟨b0, b1, b2⟩ := bd_facts H1.out.1
    have hw1 : IntKind.i64.wrap (n - u) = n - u := IntWalk.i64_in _ (by omega)
    have hw2 : IntKind.i64.wrap (n - u - sumR l) = n - u - sumR l := IntWalk.i64_in _ (by omega)
    have z0 := grownBy_trans H1.out.1.grown (grownBy_drew (r := none))
    have HB := Lib.hid (H1.out.2.kept (grownBy_drew (r := none)))
    go_wp2_with fail
    go_region_held3 (fun w' => w'.cell? ⟨w.heap.size, 0, none⟩ = some (.int .i64 u) ∧ w'.cell? ⟨w.heap.size, 1, none⟩ = some (.int .i64 n) ∧ w'.cell? ⟨w.heap.size, 2, none⟩ = some (.slice a l.length c) ∧ w.grownBy w' none) ((refine ⟨by first | assumption | (simp [*]; done), by first | assumption | (simp [*]; done), by first | assumption | (simp [*]; done), by assumption⟩))
      (first
        | (go_at_call 43; refine (many_any _ _ _ _ _ _ _ HB.out (rgN_of HP.out) (by omega) (by omega) (by omega)).mono ?_; rw [HT.out]; rintro e w9 ⟨rfl, hg⟩; have q0 := hg.cell (a := ⟨w.heap.size, 0, none⟩) (v := .int .i64 u) (by first | assumption | (simp [*]; done)) (by simp); have q1 := hg.cell (a := ⟨w.heap.size, 1, none⟩) (v := .int .i64 n) (by first | assumption | (simp [*]; done)) (by simp); have q2 := hg.cell (a := ⟨w.heap.size, 2, none⟩) (v := .slice a l.length c) (by first | assumption | (simp [*]; done)) (by simp); have q4 := grownBy_trans (a := w) (by assumption) hg))
    go_wp2_with fail
    go_ret
    exact ⟨ret_i HE.out.symm, by assumption⟩

end Go.Proofs.Ytedgfiagefhahaa
