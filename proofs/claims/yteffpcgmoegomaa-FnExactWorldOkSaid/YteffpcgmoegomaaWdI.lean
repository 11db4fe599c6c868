/- The program's stream bytes, and whether ranges are in one piece. -/
import Derived.Test.YteffpcgmoegomaaWdD
import Derived.Test.YteffpcgmoegomaaBx
import Derived.Deep.DeepCutAuto
import Derived.LoopTactic
namespace Go.Proofs.Yteffpcgmoegomaa
open Go.RowKit
open P7 (Pk PkAt pcsOk prefL PcsP pcs_of pcs_yes pc1 start_any end_any pref_impl ok_impl)

theorem row_grown {w a b : World} {e : TypeId} {v : Value} {m s : Nat} {ys : List Value} (ho : a.ownsRow w.heap.size e s v m ys) (h : w.grownBy a none) (k : a.grownBy b v.ownBlock) : w.grownBy b none := grown_row_none h k ho (Nat.le_refl _)
def StRel (w : World) (f : Int) (K : Nat) (v i : Value) (wr : World) : Prop :=
  ∃ j : Nat, j ≤ K ∧ i = .int .i64 (f + (j : Int)) ∧ w.grownBy wr none ∧ wr.ownsRow w.heap.size 5 1 v j (bytesV (strL f j))
theorem char_at (f : Int) (j : Nat) (h0 : 0 ≤ f) : ∃ (R : Int) (B : UInt8), (f + (j : Int)).tmod 26 = R ∧ (f + (j : Int)) % 26 = R ∧ IntKind.i64.wrap R = R ∧ IntKind.u8.wrap R = R ∧ IntKind.u8.wrap (97 + R) = (B.toNat : Int) ∧ strL f (j + 1) = strL f j ++ [B] := by
  refine ⟨((f.toNat + j) % 26 : Nat), _, ?_, ?_, ?_, ?_, ?_, strL_snoc f j⟩
  · rw [Int.tmod_eq_emod_of_nonneg (by omega)]; omega
  · omega
  · exact IntWalk.i64_in _ (by omega)
  · have hx : (f.toNat + j) % 26 < 26 := Nat.mod_lt _ (by decide)
    simp only [IntKind.wrap, show IntKind.u8.bits = 8 from rfl, show IntKind.u8.signed = false from rfl, Bool.false_and, Bool.false_eq_true, if_false]; omega
  · have hx : (f.toNat + j) % 26 < 26 := Nat.mod_lt _ (by decide)
    generalize (f.toNat + j) % 26 = x at *
    have e3 : IntKind.u8.wrap (97 + (x : Int)) = 97 + (x : Int) := by
      simp only [IntKind.wrap, show IntKind.u8.bits = 8 from rfl, show IntKind.u8.signed = false from rfl, Bool.false_and, Bool.false_eq_true, if_false]; omega
    rw [e3]
    simp
    omega

set_option maxRecDepth 100000 in
set_option maxHeartbeats 1000000 in
theorem str_I (f t : Int) (w : World) (h0 : 0 ≤ f) (h1 : f ≤ t) (h2 : t ≤ 100000) : Calls Try.prog 62 #[.int .i64 f, .int .i64 t] w fun e w' => e = .returned (.string ⟨(strL f (t - f).toNat).toArray⟩) ∧ w.grownBy w' none := by
  obtain ⟨i0, hi, hz0, hz1, hz2⟩ := info_parts info5
  obtain ⟨K, hK⟩ : ∃ K : Nat, t - f = (K : Int) := ⟨(t - f).toNat, by omega⟩
  have hw1 : IntKind.i64.wrap (t - f) = (K : Int) := by rw [IntWalk.i64_in _ (by omega)]; exact hK
  have HT := Lib.hid (show (t - f).toNat = K ∧ t = f + (K : Int) ∧ f + (K : Int) ≤ 100000 from ⟨by omega, by omega, by omega⟩)
  clear hK
  rw [HT.out.1]
  go_enter Try.func62, Try.ntmps62
  go_wp2_with (at_make; refine wpList_make_own _ rfl _ _ 44 rfl w.heap.size 5 i0 (.int .u8 0) 1 Try.underlying44 hi hz0 hz1 _ _ _ K rfl rfl rfl ?c1 ?c2 ?c3 ?_)
  case c1 => rw [hz2]; have := HT.out.2.2; omega
  case c2 => unfold maxLen; have := HT.out.2.2; omega
  case c3 => exact Nat.le_refl _
  intro w1 hown hg
  have HS := Lib.hid (And.intro hown hg)
  clear hown hg hw1
  go_wp2_with fail
  go_loopw [5, 6] (fun v i wr => StRel w f K v i wr) (fun _ i _ => (t - intOf i).toNat)
  case atStart => exact ⟨0, Nat.zero_le _, by simp, HS.out.2, by simpa [strL, bytesV] using HS.out.1⟩
  case round =>
    clear HS
    obtain ⟨j, hj, rfl, hg, hown⟩ := hrel
    have HR := Lib.hid (And.intro hg hown)
    clear hg hown
    by_cases hlt : j < K
    · have hlt' : f + (j : Int) < t := by have := HT.out.2.1; omega
      have hb : f + (j : Int) ≤ 100000 := by have := HT.out.2.2; omega
      obtain ⟨R, B, hm1, hm2, hm3, hm4, hm5, hm6⟩ := char_at f j h0
      have HC := Lib.hid hm6
      clear hm6
      have hw2 : IntKind.i64.wrap (f + (j : Int) + 1) = f + ((j + 1 : Nat) : Int) := by rw [IntWalk.i64_in _ (by omega)]; omega
      have hj2 : j ≤ 100000 := by omega
      go_wp2_with (at_builtin; refine wpList_append_own _ rfl _ _ 44 rfl w.heap.size 5 i0 (.int .u8 0) 1 1 Try.underlying44 hi hz0 hz1 hz2 rfl (by decide) _ _ _ rfl (HR.out.2.alloc _) ⟨wr.heap.size, 0, none⟩ 1 1 [.int .u8 (B.toNat : Int)] rfl rfl ?c1 ?c2 ?c3 ?c4 ?c5 ?_)
      case c1 => exact cell_one_new _ _ _
      case c2 => simp [Value.oneCell']
      case c3 => unfold maxLen; omega
      case c4 => omega
      case c5 => exact Nat.le_trans HR.out.1.size (World.grownBy_alloc _ _ none).size
      intro v' w3 hown1 hg1 _
      have H1 := Lib.hid (And.intro hown1 (row_grown (HR.out.2.alloc _) (grownBy_trans HR.out.1 (World.grownBy_alloc _ _ _)) hg1))
      clear hown1 hg1 hm1 hm2 hm3 hm4 hm5
      go_wp2_with fail
      go_roundw
      case rel =>
        refine ⟨j + 1, hlt, by go_num, H1.out.2, ?_⟩
        have e := H1.out.1
        rw [HC.out, bytesV, List.map_append, List.map_singleton]
        exact e
      case measure => simp [intOf]; omega
    · obtain rfl : j = K := by omega
      have hge : ¬ f + (j : Int) < t := by have := HT.out.2.1; omega
      have hc := conv_row (strL_len f j) HR.out.2
      go_wp2_with fail
      go_ret
      exact ⟨rfl, HR.out.1⟩


theorem ret_yes2 {p : Prop} [Decidable p] (h : p) : (Ending.returned (.bool true)) = .returned (.bool (decide p)) := by rw [decide_eq_true h]
theorem ret_no2 {p : Prop} [Decidable p] (h : ¬ p) : (Ending.returned (.bool false)) = .returned (.bool (decide p)) := by rw [decide_eq_false h]
/-- A range lies in a piece. -/
def inP (x : Rg) (p : Pk) : Prop := p.1 ≤ x.1 ∧ x.2 ≤ p.1 + (p.2.length : Int)
instance (x : Rg) (p : Pk) : Decidable (inP x p) := by unfold inP; infer_instance

set_option maxRecDepth 100000 in
set_option maxHeartbeats 2000000 in
theorem had_clo (t : Int) (m : List UInt8) (x1 x2 : Int) (B : Nat) (w : World) (h0 : 0 ≤ t) (h1 : t ≤ 1000000) (h2 : m.length ≤ 1000000) (b0 : w.cell? ⟨B, 0, none⟩ = some (.int .i64 x1)) (b1 : w.cell? ⟨B, 1, none⟩ = some (.int .i64 x2)) :
    Calls Try.prog 78 #[.agg #[.int .i64 t, .string ⟨m.toArray⟩], .pointer (some ⟨B, 0, none⟩)] w fun e w' => e = .returned (.bool (decide (inP (x1, x2) (t, m)))) ∧ w.grownBy w' none := by
  have hg := World.grownBy_alloc w (.cells #[.int .i64 t, .string ⟨m.toArray⟩] 61) none
  have HA := Lib.hid (And.intro hg (Bx.new w 61 #[.int .i64 t, .string ⟨m.toArray⟩]))
  have p2 := hg.cell b0 (by simp)
  have p3 := hg.cell b1 (by simp)
  have p0 := HA.out.2.c 0 rfl
  have p1 := HA.out.2.c 1 rfl
  clear hg b0 b1
  go_enter Try.func78, Try.ntmps78
  go_upto_region 1 with fail
  generalize w.alloc (.cells #[.int .i64 t, .string ⟨m.toArray⟩] 61) = w1 at *
  by_cases g : t ≤ x1
  · by_cases g2 : x2 ≤ t + (m.length : Int)
    · skip
      refine wp_region_held_drew (S := fun w' => w'.cell? ⟨w.heap.size, 0, none⟩ = some (.int .i64 t) ∧ w'.cell? ⟨w.heap.size, 1, none⟩ = some (.string ⟨m.toArray⟩) ∧ w'.cell? ⟨B, 0, none⟩ = some (.int .i64 x1) ∧ w'.cell? ⟨B, 1, none⟩ = some (.int .i64 x2) ∧ w1.grownBy w' none) (by kernel_rfl) (by have hd : w1.grownBy w1.drew none := ⟨rfl, rfl, rfl, Nat.le_refl _, fun _ _ _ => rfl⟩; exact ⟨(hd).cell p0 (by simp), (hd).cell p1 (by simp), (hd).cell p2 (by simp), (hd).cell p3 (by simp), hd⟩) (fun hS => ?_)
      refine wpAnyH_take (i := 0) (v := ?_) rfl (by kernel_rfl) (by kernel_rfl) (by kernel_rfl) (fun _ _ _ h => h) (Or.inl ⟨by kernel_rfl, ?_⟩) hS ?_
      rotate_left
      · intro w' hSw
        obtain ⟨g0, g1, g2, g3, _⟩ := hSw
        first | (go_simp; done) | (go_simp; with_reducible rfl)
      simp only [List.getElem_toArray, List.getElem_cons_zero, Act.put, List.setIfInBounds_toArray, List.set_cons_zero, List.set_cons_succ]
      refine wpAnyH_take (i := 2) (v := ?_) rfl (by kernel_rfl) (by kernel_rfl) (by kernel_rfl) (fun _ _ _ h => h) (Or.inl ⟨by kernel_rfl, ?_⟩) hS ?_
      rotate_left
      · intro w' hSw
        obtain ⟨g0, g1, g2, g3, _⟩ := hSw
        first | (go_simp; done) | (go_simp; with_reducible rfl)
      simp only [List.getElem_toArray, List.getElem_cons_zero, List.getElem_cons_succ, Act.put, List.setIfInBounds_toArray, List.set_cons_zero, List.set_cons_succ]
      refine wpAnyH_take (i := 3) (v := ?_) rfl (by kernel_rfl) (by kernel_rfl) (by kernel_rfl) (fun _ _ _ h => h) (Or.inl ⟨by kernel_rfl, ?_⟩) hS ?_
      rotate_left
      · intro w' hSw
        obtain ⟨g0, g1, g2, g3, _⟩ := hSw
        first | (go_simp; done) | (go_simp; with_reducible rfl)
      simp only [List.getElem_toArray, List.getElem_cons_zero, List.getElem_cons_succ, Act.put, List.setIfInBounds_toArray, List.set_cons_zero, List.set_cons_succ]
      refine wpAnyH_ready (rs := [1]) (by kernel_rfl) (List.cons_ne_nil _ _) ?_
      refine AllReadyH.cons rfl (fun K hK => ?_) AllReadyH.nil
      go_simp
      go_at_call 63
      refine (start_any t m _).mono ?_
      rintro e u1 ⟨rfl, hg⟩
      have hF := grownBy_trans (hS.2.2.2.2) hg
      clear hg
      refine hK.out _ _ (⟨(hF).cell p0 (by simp), (hF).cell p1 (by simp), (hF).cell p2 (by simp), (hF).cell p3 (by simp), hF⟩) (fun hS => ?_)
      clear hF
      clear hK
      try simp only [List.getElem_toArray, List.getElem_cons_zero, List.getElem_cons_succ, Act.put, List.setIfInBounds_toArray, List.set_cons_zero, List.set_cons_succ]
      refine wpAnyH_take (i := 4) (v := ?_) rfl (by kernel_rfl) (by kernel_rfl) (by kernel_rfl) (fun _ _ _ h => h) (Or.inl ⟨by kernel_rfl, ?_⟩) hS ?_
      rotate_left
      · intro w' hSw
        obtain ⟨g0, g1, g2, g3, _⟩ := hSw
        first | (go_simp; done) | (go_simp; with_reducible rfl)
      simp only [List.getElem_toArray, List.getElem_cons_zero, List.getElem_cons_succ, Act.put, List.setIfInBounds_toArray, List.set_cons_zero, List.set_cons_succ]
      refine wpAnyH_take (i := 5) (v := ?_) rfl (by kernel_rfl) (by kernel_rfl) (by kernel_rfl) (fun _ _ _ h => h) (Or.inl ⟨by kernel_rfl, ?_⟩) hS ?_
      rotate_left
      · intro w' hSw
        obtain ⟨g0, g1, g2, g3, _⟩ := hSw
        first | (go_simp; done) | (go_simp; with_reducible rfl)
      simp only [List.getElem_toArray, List.getElem_cons_zero, List.getElem_cons_succ, Act.put, List.setIfInBounds_toArray, List.set_cons_zero, List.set_cons_succ]
      refine wpAnyH_take (i := 6) (v := ?_) rfl (by kernel_rfl) (by kernel_rfl) (by kernel_rfl) (fun _ _ _ h => h) (Or.inl ⟨by kernel_rfl, ?_⟩) hS ?_
      rotate_left
      · intro w' hSw
        obtain ⟨g0, g1, g2, g3, _⟩ := hSw
        first | (go_simp; done) | (go_simp; with_reducible rfl)
      simp only [List.getElem_toArray, List.getElem_cons_zero, List.getElem_cons_succ, Act.put, List.setIfInBounds_toArray, List.set_cons_zero, List.set_cons_succ]
      refine wpAnyH_take (i := 7) (v := ?_) rfl (by kernel_rfl) (by kernel_rfl) (by kernel_rfl) (fun _ _ _ h => h) (Or.inl ⟨by kernel_rfl, ?_⟩) hS ?_
      rotate_left
      · intro w' hSw
        obtain ⟨g0, g1, g2, g3, _⟩ := hSw
        first | (go_simp; done) | (go_simp; with_reducible rfl)
      simp only [List.getElem_toArray, List.getElem_cons_zero, List.getElem_cons_succ, Act.put, List.setIfInBounds_toArray, List.set_cons_zero, List.set_cons_succ]
      refine wpAnyH_take (i := 8) (v := ?_) rfl (by kernel_rfl) (by kernel_rfl) (by kernel_rfl) (fun _ _ _ h => h) (Or.inl ⟨by kernel_rfl, ?_⟩) hS ?_
      rotate_left
      · intro w' hSw
        obtain ⟨g0, g1, g2, g3, _⟩ := hSw
        first | (go_simp; done) | (go_simp; with_reducible rfl)
      simp only [List.getElem_toArray, List.getElem_cons_zero, List.getElem_cons_succ, Act.put, List.setIfInBounds_toArray, List.set_cons_zero, List.set_cons_succ]
      refine wpAnyH_ready (rs := [9]) (by kernel_rfl) (List.cons_ne_nil _ _) ?_
      refine AllReadyH.cons rfl (fun K hK => ?_) AllReadyH.nil
      go_simp
      go_at_call 61
      refine (end_any t m _ h0 h1 h2).mono ?_
      rintro e u1 ⟨rfl, hg⟩
      have hF := grownBy_trans (hS.2.2.2.2) hg
      clear hg
      refine hK.out _ _ (⟨(hF).cell p0 (by simp), (hF).cell p1 (by simp), (hF).cell p2 (by simp), (hF).cell p3 (by simp), hF⟩) (fun hS => ?_)
      clear hF
      clear hK
      try simp only [List.getElem_toArray, List.getElem_cons_zero, List.getElem_cons_succ, Act.put, List.setIfInBounds_toArray, List.set_cons_zero, List.set_cons_succ]
      refine wpAnyH_take (i := 10) (v := ?_) rfl (by kernel_rfl) (by kernel_rfl) (by kernel_rfl) (fun _ _ _ h => h) (Or.inl ⟨by kernel_rfl, ?_⟩) hS ?_
      rotate_left
      · intro w' hSw
        obtain ⟨g0, g1, g2, g3, _⟩ := hSw
        first | (go_simp; done) | (go_simp; with_reducible rfl)
      simp only [List.getElem_toArray, List.getElem_cons_zero, List.getElem_cons_succ, Act.put, List.setIfInBounds_toArray, List.set_cons_zero, List.set_cons_succ]
      refine wpAnyH_take (i := 11) (v := ?_) rfl (by kernel_rfl) (by kernel_rfl) (by kernel_rfl) (fun _ _ _ h => h) (Or.inl ⟨by kernel_rfl, ?_⟩) hS ?_
      rotate_left
      · intro w' hSw
        obtain ⟨g0, g1, g2, g3, _⟩ := hSw
        first | (go_simp; done) | (go_simp; with_reducible rfl)
      simp only [List.getElem_toArray, List.getElem_cons_zero, List.getElem_cons_succ, Act.put, List.setIfInBounds_toArray, List.set_cons_zero, List.set_cons_succ]
      refine wpAnyH_take (i := 12) (v := ?_) rfl (by kernel_rfl) (by kernel_rfl) (by kernel_rfl) (fun _ _ _ h => h) (Or.inl ⟨by kernel_rfl, ?_⟩) hS ?_
      rotate_left
      · intro w' hSw
        obtain ⟨g0, g1, g2, g3, _⟩ := hSw
        first | (go_simp; done) | (go_simp; with_reducible rfl)
      simp only [List.getElem_toArray, List.getElem_cons_zero, List.getElem_cons_succ, Act.put, List.setIfInBounds_toArray, List.set_cons_zero, List.set_cons_succ]
      refine wpAnyH_done (by kernel_rfl) ?_ _
      go_wp2_with fail
      go_ret
      exact ⟨ret_yes2 ⟨g, g2⟩, grownBy_trans HA.out.1 hS.2.2.2.2⟩
    · skip
      refine wp_region_held_drew (S := fun w' => w'.cell? ⟨w.heap.size, 0, none⟩ = some (.int .i64 t) ∧ w'.cell? ⟨w.heap.size, 1, none⟩ = some (.string ⟨m.toArray⟩) ∧ w'.cell? ⟨B, 0, none⟩ = some (.int .i64 x1) ∧ w'.cell? ⟨B, 1, none⟩ = some (.int .i64 x2) ∧ w1.grownBy w' none) (by kernel_rfl) (by have hd : w1.grownBy w1.drew none := ⟨rfl, rfl, rfl, Nat.le_refl _, fun _ _ _ => rfl⟩; exact ⟨(hd).cell p0 (by simp), (hd).cell p1 (by simp), (hd).cell p2 (by simp), (hd).cell p3 (by simp), hd⟩) (fun hS => ?_)
      refine wpAnyH_take (i := 0) (v := ?_) rfl (by kernel_rfl) (by kernel_rfl) (by kernel_rfl) (fun _ _ _ h => h) (Or.inl ⟨by kernel_rfl, ?_⟩) hS ?_
      rotate_left
      · intro w' hSw
        obtain ⟨g0, g1, g2, g3, _⟩ := hSw
        first | (go_simp; done) | (go_simp; with_reducible rfl)
      simp only [List.getElem_toArray, List.getElem_cons_zero, Act.put, List.setIfInBounds_toArray, List.set_cons_zero, List.set_cons_succ]
      refine wpAnyH_take (i := 2) (v := ?_) rfl (by kernel_rfl) (by kernel_rfl) (by kernel_rfl) (fun _ _ _ h => h) (Or.inl ⟨by kernel_rfl, ?_⟩) hS ?_
      rotate_left
      · intro w' hSw
        obtain ⟨g0, g1, g2, g3, _⟩ := hSw
        first | (go_simp; done) | (go_simp; with_reducible rfl)
      simp only [List.getElem_toArray, List.getElem_cons_zero, List.getElem_cons_succ, Act.put, List.setIfInBounds_toArray, List.set_cons_zero, List.set_cons_succ]
      refine wpAnyH_take (i := 3) (v := ?_) rfl (by kernel_rfl) (by kernel_rfl) (by kernel_rfl) (fun _ _ _ h => h) (Or.inl ⟨by kernel_rfl, ?_⟩) hS ?_
      rotate_left
      · intro w' hSw
        obtain ⟨g0, g1, g2, g3, _⟩ := hSw
        first | (go_simp; done) | (go_simp; with_reducible rfl)
      simp only [List.getElem_toArray, List.getElem_cons_zero, List.getElem_cons_succ, Act.put, List.setIfInBounds_toArray, List.set_cons_zero, List.set_cons_succ]
      refine wpAnyH_ready (rs := [1]) (by kernel_rfl) (List.cons_ne_nil _ _) ?_
      refine AllReadyH.cons rfl (fun K hK => ?_) AllReadyH.nil
      go_simp
      go_at_call 63
      refine (start_any t m _).mono ?_
      rintro e u1 ⟨rfl, hg⟩
      have hF := grownBy_trans (hS.2.2.2.2) hg
      clear hg
      refine hK.out _ _ (⟨(hF).cell p0 (by simp), (hF).cell p1 (by simp), (hF).cell p2 (by simp), (hF).cell p3 (by simp), hF⟩) (fun hS => ?_)
      clear hF
      clear hK
      try simp only [List.getElem_toArray, List.getElem_cons_zero, List.getElem_cons_succ, Act.put, List.setIfInBounds_toArray, List.set_cons_zero, List.set_cons_succ]
      refine wpAnyH_take (i := 4) (v := ?_) rfl (by kernel_rfl) (by kernel_rfl) (by kernel_rfl) (fun _ _ _ h => h) (Or.inl ⟨by kernel_rfl, ?_⟩) hS ?_
      rotate_left
      · intro w' hSw
        obtain ⟨g0, g1, g2, g3, _⟩ := hSw
        first | (go_simp; done) | (go_simp; with_reducible rfl)
      simp only [List.getElem_toArray, List.getElem_cons_zero, List.getElem_cons_succ, Act.put, List.setIfInBounds_toArray, List.set_cons_zero, List.set_cons_succ]
      refine wpAnyH_take (i := 5) (v := ?_) rfl (by kernel_rfl) (by kernel_rfl) (by kernel_rfl) (fun _ _ _ h => h) (Or.inl ⟨by kernel_rfl, ?_⟩) hS ?_
      rotate_left
      · intro w' hSw
        obtain ⟨g0, g1, g2, g3, _⟩ := hSw
        first | (go_simp; done) | (go_simp; with_reducible rfl)
      simp only [List.getElem_toArray, List.getElem_cons_zero, List.getElem_cons_succ, Act.put, List.setIfInBounds_toArray, List.set_cons_zero, List.set_cons_succ]
      refine wpAnyH_take (i := 6) (v := ?_) rfl (by kernel_rfl) (by kernel_rfl) (by kernel_rfl) (fun _ _ _ h => h) (Or.inl ⟨by kernel_rfl, ?_⟩) hS ?_
      rotate_left
      · intro w' hSw
        obtain ⟨g0, g1, g2, g3, _⟩ := hSw
        first | (go_simp; done) | (go_simp; with_reducible rfl)
      simp only [List.getElem_toArray, List.getElem_cons_zero, List.getElem_cons_succ, Act.put, List.setIfInBounds_toArray, List.set_cons_zero, List.set_cons_succ]
      refine wpAnyH_take (i := 7) (v := ?_) rfl (by kernel_rfl) (by kernel_rfl) (by kernel_rfl) (fun _ _ _ h => h) (Or.inl ⟨by kernel_rfl, ?_⟩) hS ?_
      rotate_left
      · intro w' hSw
        obtain ⟨g0, g1, g2, g3, _⟩ := hSw
        first | (go_simp; done) | (go_simp; with_reducible rfl)
      simp only [List.getElem_toArray, List.getElem_cons_zero, List.getElem_cons_succ, Act.put, List.setIfInBounds_toArray, List.set_cons_zero, List.set_cons_succ]
      refine wpAnyH_take (i := 8) (v := ?_) rfl (by kernel_rfl) (by kernel_rfl) (by kernel_rfl) (fun _ _ _ h => h) (Or.inl ⟨by kernel_rfl, ?_⟩) hS ?_
      rotate_left
      · intro w' hSw
        obtain ⟨g0, g1, g2, g3, _⟩ := hSw
        first | (go_simp; done) | (go_simp; with_reducible rfl)
      simp only [List.getElem_toArray, List.getElem_cons_zero, List.getElem_cons_succ, Act.put, List.setIfInBounds_toArray, List.set_cons_zero, List.set_cons_succ]
      refine wpAnyH_ready (rs := [9]) (by kernel_rfl) (List.cons_ne_nil _ _) ?_
      refine AllReadyH.cons rfl (fun K hK => ?_) AllReadyH.nil
      go_simp
      go_at_call 61
      refine (end_any t m _ h0 h1 h2).mono ?_
      rintro e u1 ⟨rfl, hg⟩
      have hF := grownBy_trans (hS.2.2.2.2) hg
      clear hg
      refine hK.out _ _ (⟨(hF).cell p0 (by simp), (hF).cell p1 (by simp), (hF).cell p2 (by simp), (hF).cell p3 (by simp), hF⟩) (fun hS => ?_)
      clear hF
      clear hK
      try simp only [List.getElem_toArray, List.getElem_cons_zero, List.getElem_cons_succ, Act.put, List.setIfInBounds_toArray, List.set_cons_zero, List.set_cons_succ]
      refine wpAnyH_take (i := 10) (v := ?_) rfl (by kernel_rfl) (by kernel_rfl) (by kernel_rfl) (fun _ _ _ h => h) (Or.inl ⟨by kernel_rfl, ?_⟩) hS ?_
      rotate_left
      · intro w' hSw
        obtain ⟨g0, g1, g2, g3, _⟩ := hSw
        first | (go_simp; done) | (go_simp; with_reducible rfl)
      simp only [List.getElem_toArray, List.getElem_cons_zero, List.getElem_cons_succ, Act.put, List.setIfInBounds_toArray, List.set_cons_zero, List.set_cons_succ]
      refine wpAnyH_take (i := 11) (v := ?_) rfl (by kernel_rfl) (by kernel_rfl) (by kernel_rfl) (fun _ _ _ h => h) (Or.inl ⟨by kernel_rfl, ?_⟩) hS ?_
      rotate_left
      · intro w' hSw
        obtain ⟨g0, g1, g2, g3, _⟩ := hSw
        first | (go_simp; done) | (go_simp; with_reducible rfl)
      simp only [List.getElem_toArray, List.getElem_cons_zero, List.getElem_cons_succ, Act.put, List.setIfInBounds_toArray, List.set_cons_zero, List.set_cons_succ]
      refine wpAnyH_take (i := 12) (v := ?_) rfl (by kernel_rfl) (by kernel_rfl) (by kernel_rfl) (fun _ _ _ h => h) (Or.inl ⟨by kernel_rfl, ?_⟩) hS ?_
      rotate_left
      · intro w' hSw
        obtain ⟨g0, g1, g2, g3, _⟩ := hSw
        first | (go_simp; done) | (go_simp; with_reducible rfl)
      simp only [List.getElem_toArray, List.getElem_cons_zero, List.getElem_cons_succ, Act.put, List.setIfInBounds_toArray, List.set_cons_zero, List.set_cons_succ]
      refine wpAnyH_done (by kernel_rfl) ?_ _
      go_wp2_with fail
      go_ret
      exact ⟨ret_no2 (fun h => by have h2 := h.2; dsimp only at h2; omega), grownBy_trans HA.out.1 hS.2.2.2.2⟩
  · skip
    refine wp_region_held_drew (S := fun w' => w'.cell? ⟨w.heap.size, 0, none⟩ = some (.int .i64 t) ∧ w'.cell? ⟨w.heap.size, 1, none⟩ = some (.string ⟨m.toArray⟩) ∧ w'.cell? ⟨B, 0, none⟩ = some (.int .i64 x1) ∧ w'.cell? ⟨B, 1, none⟩ = some (.int .i64 x2) ∧ w1.grownBy w' none) (by kernel_rfl) (by have hd : w1.grownBy w1.drew none := ⟨rfl, rfl, rfl, Nat.le_refl _, fun _ _ _ => rfl⟩; exact ⟨(hd).cell p0 (by simp), (hd).cell p1 (by simp), (hd).cell p2 (by simp), (hd).cell p3 (by simp), hd⟩) (fun hS => ?_)
    refine wpAnyH_take (i := 0) (v := ?_) rfl (by kernel_rfl) (by kernel_rfl) (by kernel_rfl) (fun _ _ _ h => h) (Or.inl ⟨by kernel_rfl, ?_⟩) hS ?_
    rotate_left
    · intro w' hSw
      obtain ⟨g0, g1, g2, g3, _⟩ := hSw
      first | (go_simp; done) | (go_simp; with_reducible rfl)
    simp only [List.getElem_toArray, List.getElem_cons_zero, Act.put, List.setIfInBounds_toArray, List.set_cons_zero, List.set_cons_succ]
    refine wpAnyH_take (i := 2) (v := ?_) rfl (by kernel_rfl) (by kernel_rfl) (by kernel_rfl) (fun _ _ _ h => h) (Or.inl ⟨by kernel_rfl, ?_⟩) hS ?_
    rotate_left
    · intro w' hSw
      obtain ⟨g0, g1, g2, g3, _⟩ := hSw
      first | (go_simp; done) | (go_simp; with_reducible rfl)
    simp only [List.getElem_toArray, List.getElem_cons_zero, List.getElem_cons_succ, Act.put, List.setIfInBounds_toArray, List.set_cons_zero, List.set_cons_succ]
    refine wpAnyH_take (i := 3) (v := ?_) rfl (by kernel_rfl) (by kernel_rfl) (by kernel_rfl) (fun _ _ _ h => h) (Or.inl ⟨by kernel_rfl, ?_⟩) hS ?_
    rotate_left
    · intro w' hSw
      obtain ⟨g0, g1, g2, g3, _⟩ := hSw
      first | (go_simp; done) | (go_simp; with_reducible rfl)
    simp only [List.getElem_toArray, List.getElem_cons_zero, List.getElem_cons_succ, Act.put, List.setIfInBounds_toArray, List.set_cons_zero, List.set_cons_succ]
    refine wpAnyH_ready (rs := [1]) (by kernel_rfl) (List.cons_ne_nil _ _) ?_
    refine AllReadyH.cons rfl (fun K hK => ?_) AllReadyH.nil
    go_simp
    go_at_call 63
    refine (start_any t m _).mono ?_
    rintro e u1 ⟨rfl, hg⟩
    have hF := grownBy_trans (hS.2.2.2.2) hg
    clear hg
    refine hK.out _ _ (⟨(hF).cell p0 (by simp), (hF).cell p1 (by simp), (hF).cell p2 (by simp), (hF).cell p3 (by simp), hF⟩) (fun hS => ?_)
    clear hF
    clear hK
    try simp only [List.getElem_toArray, List.getElem_cons_zero, List.getElem_cons_succ, Act.put, List.setIfInBounds_toArray, List.set_cons_zero, List.set_cons_succ]
    refine wpAnyH_take (i := 4) (v := ?_) rfl (by kernel_rfl) (by kernel_rfl) (by kernel_rfl) (fun _ _ _ h => h) (Or.inl ⟨by kernel_rfl, ?_⟩) hS ?_
    rotate_left
    · intro w' hSw
      obtain ⟨g0, g1, g2, g3, _⟩ := hSw
      first | (go_simp; done) | (go_simp; with_reducible rfl)
    simp only [List.getElem_toArray, List.getElem_cons_zero, List.getElem_cons_succ, Act.put, List.setIfInBounds_toArray, List.set_cons_zero, List.set_cons_succ]
    refine wpAnyH_take (i := 5) (v := ?_) rfl (by kernel_rfl) (by kernel_rfl) (by kernel_rfl) (fun _ _ _ h => h) (Or.inl ⟨by kernel_rfl, ?_⟩) hS ?_
    rotate_left
    · intro w' hSw
      obtain ⟨g0, g1, g2, g3, _⟩ := hSw
      first | (go_simp; done) | (go_simp; with_reducible rfl)
    simp only [List.getElem_toArray, List.getElem_cons_zero, List.getElem_cons_succ, Act.put, List.setIfInBounds_toArray, List.set_cons_zero, List.set_cons_succ]
    refine wpAnyH_take (i := 6) (v := undef) rfl (by kernel_rfl) (by kernel_rfl) (by kernel_rfl) (fun _ _ _ h => h) (Or.inr ⟨by kernel_rfl, rfl⟩) hS ?_
    simp only [List.getElem_toArray, List.getElem_cons_zero, List.getElem_cons_succ, Act.put, List.setIfInBounds_toArray, List.set_cons_zero, List.set_cons_succ]
    refine wpAnyH_take (i := 7) (v := undef) rfl (by kernel_rfl) (by kernel_rfl) (by kernel_rfl) (fun _ _ _ h => h) (Or.inr ⟨by kernel_rfl, rfl⟩) hS ?_
    simp only [List.getElem_toArray, List.getElem_cons_zero, List.getElem_cons_succ, Act.put, List.setIfInBounds_toArray, List.set_cons_zero, List.set_cons_succ]
    refine wpAnyH_take (i := 8) (v := undef) rfl (by kernel_rfl) (by kernel_rfl) (by kernel_rfl) (fun _ _ _ h => h) (Or.inr ⟨by kernel_rfl, rfl⟩) hS ?_
    simp only [List.getElem_toArray, List.getElem_cons_zero, List.getElem_cons_succ, Act.put, List.setIfInBounds_toArray, List.set_cons_zero, List.set_cons_succ]
    refine wpAnyH_take (i := 9) (v := undef) rfl (by kernel_rfl) (by kernel_rfl) (by kernel_rfl) (fun _ _ _ h => h) (Or.inr ⟨by kernel_rfl, rfl⟩) hS ?_
    simp only [List.getElem_toArray, List.getElem_cons_zero, List.getElem_cons_succ, Act.put, List.setIfInBounds_toArray, List.set_cons_zero, List.set_cons_succ]
    refine wpAnyH_take (i := 10) (v := undef) rfl (by kernel_rfl) (by kernel_rfl) (by kernel_rfl) (fun _ _ _ h => h) (Or.inr ⟨by kernel_rfl, rfl⟩) hS ?_
    simp only [List.getElem_toArray, List.getElem_cons_zero, List.getElem_cons_succ, Act.put, List.setIfInBounds_toArray, List.set_cons_zero, List.set_cons_succ]
    refine wpAnyH_take (i := 11) (v := ?_) rfl (by kernel_rfl) (by kernel_rfl) (by kernel_rfl) (fun _ _ _ h => h) (Or.inl ⟨by kernel_rfl, ?_⟩) hS ?_
    rotate_left
    · intro w' hSw
      obtain ⟨g0, g1, g2, g3, _⟩ := hSw
      first | (go_simp; done) | (go_simp; with_reducible rfl)
    simp only [List.getElem_toArray, List.getElem_cons_zero, List.getElem_cons_succ, Act.put, List.setIfInBounds_toArray, List.set_cons_zero, List.set_cons_succ]
    refine wpAnyH_take (i := 12) (v := ?_) rfl (by kernel_rfl) (by kernel_rfl) (by kernel_rfl) (fun _ _ _ h => h) (Or.inl ⟨by kernel_rfl, ?_⟩) hS ?_
    rotate_left
    · intro w' hSw
      obtain ⟨g0, g1, g2, g3, _⟩ := hSw
      first | (go_simp; done) | (go_simp; with_reducible rfl)
    simp only [List.getElem_toArray, List.getElem_cons_zero, List.getElem_cons_succ, Act.put, List.setIfInBounds_toArray, List.set_cons_zero, List.set_cons_succ]
    refine wpAnyH_done (by kernel_rfl) ?_ _
    go_wp2_with fail
    go_ret
    exact ⟨ret_no2 (fun h => by have h1 := h.1; dsimp only at h1; omega), grownBy_trans HA.out.1 hS.2.2.2.2⟩

abbrev hadV (B : Nat) : Value := .func (.func 78) #[] #[.pointer (some ⟨B, 0, none⟩)]
def HaRel (w : World) (l : List Pk) (x : Rg) (i : Value) (wr : World) : Prop := ∃ j : Nat, j ≤ l.length ∧ i = .int .i64 j ∧ w.grownBy wr none ∧ ∀ p ∈ l.take j, ¬ inP x p

set_option maxRecDepth 100000 in
set_option maxHeartbeats 2000000 in
theorem idx_had (a : Option Addr) (c : Nat) (l : List Pk) (x1 x2 : Int) (B : Nat) (w : World) (h : PkAt w a l) (hl : l.length ≤ 1048576) (hp : ∀ p ∈ l, pc1 p) (b0 : w.cell? ⟨B, 0, none⟩ = some (.int .i64 x1)) (b1 : w.cell? ⟨B, 1, none⟩ = some (.int .i64 x2)) :
    Calls Try.prog 85 #[.slice a l.length c, hadV B] w fun e w' => (∃ y : Int, e = .returned (.int .i64 y) ∧ (0 ≤ y ↔ hadL l (x1, x2))) ∧ w.grownBy w' none := by
  have H := Lib.hid (And.intro h (And.intro b0 b1))
  have HP := Lib.hid hp
  clear h b0 b1 hp
  go_enter Try.func85, Try.ntmps85
  go_wp2_with fail
  go_loopw [8] (fun i wr => HaRel w l (x1, x2) i wr) (fun i _ => l.length - (intOf i).toNat)
  case atStart => exact ⟨0, Nat.zero_le _, rfl, World.grownBy.refl _ _, by simp⟩
  case round =>
    obtain ⟨j, hj, rfl, hg, hin⟩ := hrel
    have HS := Lib.hid (And.intro hg hin)
    clear hg hin
    by_cases hlt : j < l.length
    · obtain ⟨b1, off1, rfl, c0, c1⟩ := pk_cells (H.out.1.kept HS.out.1) hlt
      have HN := Lib.hid (fun h => all_more (P := fun p => ¬ inP (x1, x2) p) l j hlt HS.out.2 h)
      have HM := Lib.hid (show inP (x1, x2) l[j] → hadL l (x1, x2) from fun h => ⟨_, List.getElem_mem hlt, h⟩)
      have hpj := HP.out _ (List.getElem_mem hlt)
      generalize l[j] = x at *
      obtain ⟨t, m⟩ := x
      obtain ⟨hp0, hp1, hp2, hp3⟩ := hpj
      dsimp only at c0 c1 hp0 hp1 hp2 hp3
      have hlt' : (j : Int) < (l.length : Int) := by omega
      have hj0 : (0 : Int) ≤ (j : Int) := by omega
      go_wp2_with fail
      refine (had_clo t m x1 x2 B _ hp0 (by omega) (by omega) (HS.out.1.cell H.out.2.1 (by simp)) (HS.out.1.cell H.out.2.2 (by simp))).mono ?_
      rintro e w2 ⟨rfl, hg⟩
      have HG := Lib.hid (grownBy_trans HS.out.1 hg)
      clear hg
      by_cases g : inP (x1, x2) (t, m)
      · rw [decide_eq_true g]
        have HQ := Lib.hid (HM.out g)
        clear g
        go_wp2_with fail
        go_ret
        exact ⟨⟨_, rfl, ⟨fun _ => HQ.out, fun _ => hj0⟩⟩, HG.out⟩
      · rw [decide_eq_false g]
        have HQ := Lib.hid (HN.out g)
        clear g
        go_wp2_with fail
        go_roundw
        case rel => exact ⟨j + 1, hlt, by go_num, HG.out, HQ.out⟩
        case measure => simp [intOf]; omega
    · obtain rfl : j = l.length := by omega
      have HQ := Lib.hid (show ¬ hadL l (x1, x2) by
        rintro ⟨p, hp, h⟩
        exact HS.out.2 p (by rw [List.take_length]; exact hp) h)
      go_wp2_with fail
      go_ret
      exact ⟨⟨_, rfl, ⟨fun h => absurd h (by decide), fun h => absurd h HQ.out⟩⟩, HS.out.1⟩

open Classical in
set_option maxRecDepth 100000 in
theorem cont_had (a : Option Addr) (c : Nat) (l : List Pk) (x1 x2 : Int) (B : Nat) (w : World) (h : PkAt w a l) (hl : l.length ≤ 1048576) (hp : ∀ p ∈ l, pc1 p) (b0 : w.cell? ⟨B, 0, none⟩ = some (.int .i64 x1)) (b1 : w.cell? ⟨B, 1, none⟩ = some (.int .i64 x2)) :
    Calls Try.prog 77 #[.slice a l.length c, hadV B] w fun e w' => e = .returned (.bool (decide (hadL l (x1, x2)))) ∧ w.grownBy w' none := by
  have H := Lib.hid (And.intro h (And.intro b0 b1))
  clear h b0 b1
  go_enter Try.func77, Try.ntmps77
  go_wp2_with fail
  refine (idx_had a c l x1 x2 B _ H.out.1 hl hp H.out.2.1 H.out.2.2).mono ?_
  rintro e w2 ⟨⟨y, rfl, hx⟩, hg⟩
  have HX := Lib.hid hx
  have HG := Lib.hid hg
  clear hx hg
  go_wp2_with fail
  go_ret
  exact ⟨congrArg (fun b => Ending.returned (.bool b)) (decide_eq_decide.2 HX.out), HG.out⟩

def AiRel (w : World) (gl : List Pk) (l : List Rg) (i : Value) (wr : World) : Prop := ∃ j : Nat, j ≤ l.length ∧ i = .int .i64 j ∧ w.grownBy wr none ∧ ∀ x ∈ l.take j, hadL gl x

open Classical in
set_option maxRecDepth 100000 in
set_option maxHeartbeats 1000000 in
theorem allin_I (a : Option Addr) (c : Nat) (gl : List Pk) (ra : Option Addr) (rc : Nat) (l : List Rg) (w : World) (h : PkAt w a gl) (hl : gl.length ≤ 1048576) (hp : ∀ p ∈ gl, pc1 p) (hr : RgAt w ra l) (hrl : l.length ≤ 1048576) :
    Calls Try.prog 64 #[.slice a gl.length c, .slice ra l.length rc] w fun e w' => e = .returned (.bool (decide (hadAll gl l))) ∧ w.grownBy w' none := by
  have H := Lib.hid (And.intro h hr)
  clear h hr
  go_enter Try.func64, Try.ntmps64
  go_wp2_with fail
  go_loopw [9] (fun i wr => AiRel w gl l i wr) (fun i _ => l.length - (intOf i).toNat)
  case atStart => exact ⟨0, Nat.zero_le _, rfl, World.grownBy.refl _ _, by simp⟩
  case round =>
    obtain ⟨j, hj, rfl, hg, hin⟩ := hrel
    have HS := Lib.hid (And.intro hg hin)
    clear hg hin
    by_cases hlt : j < l.length
    · obtain ⟨b1, off1, rfl, c0, c1⟩ := rg_cells (H.out.2.kept HS.out.1) hlt
      have HN := Lib.hid (fun h => all_more (P := fun x => hadL gl x) l j hlt HS.out.2 h)
      have HM := Lib.hid (fun h => all_not (P := fun x => hadL gl x) l j hlt h)
      generalize l[j] = x at *
      obtain ⟨x1, x2⟩ := x
      dsimp only at c0 c1
      have hlt' : (j : Int) < (l.length : Int) := by omega
      have hj0 : (0 : Int) ≤ (j : Int) := by omega
      have gX := World.grownBy_alloc wr (.cells #[.int .i64 x1, .int .i64 x2] 64) none
      have hX := Bx.new wr 64 #[.int .i64 x1, .int .i64 x2]
      have H1 := Lib.hid (And.intro (grownBy_trans HS.out.1 gX) hX)
      clear gX hX
      go_wp2_with fail
      refine (cont_had a c gl x1 x2 _ _ (H.out.1.kept H1.out.1) hl hp (H1.out.2.c 0 rfl) (H1.out.2.c 1 rfl)).mono ?_
      rintro e w2 ⟨rfl, hg⟩
      have HG := Lib.hid (grownBy_trans H1.out.1 hg)
      clear hg
      by_cases g : hadL gl (x1, x2)
      · rw [decide_eq_true g]
        have HQ := Lib.hid (HN.out g)
        clear g
        go_wp2_with fail
        go_roundw
        case rel => exact ⟨j + 1, hlt, by go_num, HG.out, HQ.out⟩
        case measure => simp [intOf]; omega
      · rw [decide_eq_false g]
        have HQ := Lib.hid (HM.out g)
        clear g
        go_wp2_with fail
        go_ret
        exact ⟨ret_no HQ.out, HG.out⟩
    · obtain rfl : j = l.length := by omega
      have HQ := Lib.hid (show hadAll gl l by have h := HS.out.2; rw [List.take_length] at h; exact h)
      go_wp2_with fail
      go_ret
      exact ⟨ret_yes HQ.out, HS.out.1⟩

end Go.Proofs.Yteffpcgmoegomaa
