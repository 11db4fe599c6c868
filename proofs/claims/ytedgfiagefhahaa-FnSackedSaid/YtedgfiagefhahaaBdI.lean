/- Boards: what is lost, the program's answer and the model's. -/
import Derived.Test.YtedgfiagefhahaaBdQ
import Derived.Test.YtedgfiagefhahaaBdH
import Derived.LoopTactic
namespace Go.Proofs.Ytedgfiagefhahaa
open Go.RowKit

theorem bey_many {p : Int} : ∀ l : List Rg, inL l p = false → (∀ x ∈ l, x.1 < x.2) → sumR (beyF p l) = manyR p l
  | [], _, _ => rfl
  | x :: l, h, hp => by
    rw [inL_cons, Bool.or_eq_false_iff] at h
    have h1 := bey_many l h.2 (fun y hy => hp y (List.mem_cons_of_mem _ hy))
    have h2 := of_decide_eq_false h.1
    have h3 := hp x (List.mem_cons_self ..)
    rw [beyF, sumR_app, h1, manyR]
    have h4 : sumR (cutB p x) = cutR p x := by
      unfold cutB hole cutR
      rcases (by omega : p < x.1 ∨ x.2 ≤ p) with hA | hB
      · have e1 : ¬ x.1 < p + 1 := by omega
        have e2 : ¬ x.2 - x.1 < 0 := by omega
        simp only [if_neg e1, if_pos h3, if_pos hA, if_neg e2]
        show x.2 - x.1 + 0 = x.2 - x.1
        omega
      · have e1 : x.1 < p + 1 := by omega
        have e2 : ¬ p + 1 < x.2 := by omega
        have e3 : ¬ p < x.1 := by omega
        simp only [if_pos e1, if_neg e2, if_neg e3]
        show (0 : Int) = _
        split <;> omega
    omega
theorem bey_rgN {p : Int} {u n : Int} {l : List Rg} (h : bdP u n l) (h1 : u ≤ p) (h2 : p ≤ n) : ∀ x ∈ beyF p l, rgN x := rgN_of (bd_acked h h1 h2)

set_option maxRecDepth 100000 in
theorem mss_ok (m : Int) (w : World) : Calls Try.prog 44 #[.int .i64 m] w fun e w' => e = .returned (.bool (decide (1 ≤ m ∧ m ≤ 10000))) ∧ w = w' := by
  by_cases h1 : 1 ≤ m
  · by_cases h2 : m ≤ 10000
    all_goals
      go_enter Try.func44, Try.ntmps44
      go_wp2
      go_ret
      exact ⟨ret_b (by first | rfl | (rw [Bool.eq_iff_iff]; simp; omega) | simp_all), rfl⟩
  · go_enter Try.func44, Try.ntmps44
    go_wp2
    go_ret
    exact ⟨ret_b (by first | rfl | (rw [Bool.eq_iff_iff]; simp; omega) | simp_all), rfl⟩

set_option maxRecDepth 100000 in
theorem in_clo (f t p : Int) (B : Nat) (w : World) (hp : w.cell? ⟨B, 0, none⟩ = some (.int .i64 p)) : Calls Try.prog 52 #[.agg #[.int .i64 f, .int .i64 t], .pointer (some ⟨B, 0, none⟩)] w fun e w' => e = .returned (.bool (decide (f ≤ p ∧ p < t))) ∧ w.grownBy w' none := by
  have hB := cell_in hp
  by_cases h1 : f ≤ p
  · by_cases h2 : p < t
    all_goals
      go_enter Try.func52, Try.ntmps52
      go_wp2
      go_ret
      exact ⟨ret_b (by first | rfl | (rw [Bool.eq_iff_iff]; simp; omega) | simp_all), World.grownBy_alloc _ _ _⟩
  · go_enter Try.func52, Try.ntmps52
    go_wp2
    go_ret
    exact ⟨ret_b (by first | rfl | (rw [Bool.eq_iff_iff]; simp; omega) | simp_all), World.grownBy_alloc _ _ _⟩

abbrev cloV (B : Nat) : Value := .func (.func 52) #[] #[.pointer (some ⟨B, 0, none⟩)]

set_option maxRecDepth 100000 in
set_option maxHeartbeats 2000000 in
theorem idx_in (a : Option Addr) (c : Nat) (l : List Rg) (p : Int) (B : Nat) (w : World) (h : RgAt w a l) (hl : l.length ≤ 1048576) (hp : w.cell? ⟨B, 0, none⟩ = some (.int .i64 p)) : Calls Try.prog 55 #[.slice a l.length c, cloV B] w fun e w' => (∃ x : Int, e = .returned (.int .i64 x) ∧ decide (0 ≤ x) = inL l p) ∧ w.grownBy w' none := by
  have H := Lib.hid (And.intro h hp)
  clear h hp
  go_enter Try.func55, Try.ntmps55
  go_wp2_with fail
  go_loopw [8] (fun i wr => SaRel w l p i wr) (fun i _ => l.length - (intOf i).toNat)
  case atStart => exact ⟨0, Nat.zero_le _, rfl, World.grownBy.refl _ _, rfl⟩
  case round =>
    obtain ⟨j, hj, rfl, hg, hin⟩ := hrel
    have HS := Lib.hid (And.intro hg hin)
    clear hg hin
    by_cases hlt : j < l.length
    · rcases (H.out.1.kept HS.out.1) with h0 | ⟨b1, off1, rfl, hb1, hc⟩
      · rw [h0] at hlt
        simp at hlt
      · obtain ⟨c0, c1⟩ := hc j hlt
        clear hc
        have HN := Lib.hid (inL_next l p j hlt HS.out.2)
        have HM := Lib.hid (fun (h : (l[j]).1 ≤ p ∧ p < (l[j]).2) => inL_iff.2 ⟨_, List.getElem_mem hlt, h⟩)
        generalize l[j] = x at *
        obtain ⟨f, t⟩ := x
        dsimp only at c0 c1
        have hlt' : (j : Int) < (l.length : Int) := by omega
        have hj0 : (0 : Int) ≤ (j : Int) := by omega
        go_wp2_with fail
        refine (in_clo f t p B _ (HS.out.1.cell H.out.2 (by simp))).mono ?_
        rintro e w2 ⟨rfl, hg⟩
        have HG := Lib.hid (grownBy_trans HS.out.1 hg)
        clear hg
        by_cases g : f ≤ p ∧ p < t
        · rw [decide_eq_true g]
          have HQ := Lib.hid (HM.out g)
          go_wp2_with fail
          go_ret
          exact ⟨⟨_, rfl, by rw [HQ.out]; exact decide_eq_true hj0⟩, HG.out⟩
        · rw [decide_eq_false g]
          have HQ := Lib.hid (show inL (l.take (j + 1)) p = false by rw [HN.out]; exact decide_eq_false g)
          go_wp2_with fail
          go_roundw
          case rel => exact ⟨j + 1, hlt, by go_num, HG.out, HQ.out⟩
          case measure => simp [intOf]; omega
    · obtain rfl : j = l.length := by omega
      have HQ := Lib.hid (show inL l p = false by have h := HS.out.2; rw [List.take_length] at h; exact h)
      go_wp2_with fail
      go_ret
      exact ⟨⟨_, rfl, by rw [HQ.out]; rfl⟩, HS.out.1⟩

set_option maxRecDepth 100000 in
theorem cont_in (a : Option Addr) (c : Nat) (l : List Rg) (p : Int) (B : Nat) (w : World) (h : RgAt w a l) (hl : l.length ≤ 1048576) (hp : w.cell? ⟨B, 0, none⟩ = some (.int .i64 p)) : Calls Try.prog 51 #[.slice a l.length c, cloV B] w fun e w' => e = .returned (.bool (inL l p)) ∧ w.grownBy w' none := by
  have H := Lib.hid (And.intro h hp)
  clear h hp
  go_enter Try.func51, Try.ntmps51
  go_wp2_with fail
  refine (idx_in a c l p B _ H.out.1 hl H.out.2).mono ?_
  rintro e w2 ⟨⟨x, rfl, hx⟩, hg⟩
  have HX := Lib.hid hx
  have HG := Lib.hid hg
  clear hx hg
  go_wp2_with fail
  go_ret
  exact ⟨ret_b (by first | exact HX.out | (rw [← HX.out]; simp)), HG.out⟩

set_option maxRecDepth 100000 in
set_option maxHeartbeats 1000000 in
theorem in_impl (u n : Int) (a : Option Addr) (c : Nat) (l : List Rg) (p : Int) (w : World) (h : RgAt w a l) (hl : l.length ≤ 1048576) : Calls Try.prog 45 #[bdV u n a l.length c, .int .i64 p] w fun e w' => e = .returned (.bool (inL l p)) ∧ w.grownBy w' none := by
  have hA : w.grownBy ((w.alloc (.cells #[.int .i64 u, .int .i64 n, .slice a l.length c] 26)).alloc (.cells #[.int .i64 p] 2)) none := grownBy_trans (World.grownBy_alloc _ _ _) (World.grownBy_alloc _ _ _)
  have hb := Bx.new (w.alloc (.cells #[.int .i64 u, .int .i64 n, .slice a l.length c] 26)) 2 #[.int .i64 p]
  have H := Lib.hid (And.intro (h.kept hA) (And.intro hA (hb.c 0 (x := .int .i64 p) rfl)))
  clear h hA hb
  go_enter Try.func45, Try.ntmps45
  go_wp2_with fail
  have hx := H.out.2.2
  simp only [World.size_alloc] at hx
  refine (cont_in a c l p _ _ H.out.1 hl hx).mono ?_
  rintro e w2 ⟨rfl, hg⟩
  have HG := Lib.hid (grownBy_trans H.out.2.1 hg)
  clear hg
  go_wp2_with fail
  go_ret
  exact ⟨rfl, HG.out⟩

set_option maxRecDepth 100000 in
set_option maxHeartbeats 2000000 in
theorem lost_spec (u n : Int) (a : Option Addr) (c : Nat) (l : List Rg) (p m : Int) (w : World) (h : RgAt w a l) (hl : l.length ≤ 1048576) : Calls Try.prog 28 #[bdV u n a l.length c, .int .i64 p, .int .i64 m] w fun e w' => e = .returned (.bool (lostL u n l p m)) ∧ w.grownBy w' none := by
  obtain ⟨W1, hW⟩ : ∃ W1, W1 = w.alloc (.cells #[.int .i64 u, .int .i64 n, .slice a l.length c] 26) := ⟨_, rfl⟩
  have hA : w.grownBy W1 none := by rw [hW]; exact World.grownBy_alloc _ _ _
  have hb : Bx W1 w.heap.size 26 #[.int .i64 u, .int .i64 n, .slice a l.length c] := by rw [hW]; exact Bx.new _ _ _
  have H := Lib.hid (And.intro (h.kept hA) (And.intro hA (And.intro hb hW)))
  clear h hA hW hb
  cases hok : bdOk u n l
  · have HN := Lib.hid (show lostL u n l p m = false from lost_no (fun h => bd_not hok h.1))
    have HK := Lib.hid hok
    clear hok
    go_enter Try.func28, Try.ntmps28
    go_wp2_with fail
    rw [← H.out.2.2.2]
    refine (bd_ok_spec _ _ _ _ _ _ H.out.1 (by omega)).mono ?_
    rintro e w2 ⟨rfl, hg⟩
    rw [HK.out]
    have HG := Lib.hid hg
    clear hg
    have hbx := H.out.2.2.1.keep HG.out
    have b0 := hbx.c 0 (x := .int .i64 u) rfl
    have b1 := hbx.c 1 (x := .int .i64 n) rfl
    have b2 := hbx.c 2 (x := .slice a l.length c) rfl
    clear hbx
    go_wp2_with fail
    go_ret
    exact ⟨ret_b HN.out.symm, grownBy_trans H.out.2.1 HG.out⟩
  · have hp := bd_of hok
    have hn9 := hp.2.2.1
    have hu0 := hp.1
    have hun := hp.2.1
    have hl4 := hp.2.2.2.1
    have HP := Lib.hid hp
    have HK := Lib.hid hok
    clear hok hp
    have hw1 : IntKind.i64.wrap (n - 1) = n - 1 := IntWalk.i64_in _ (by omega)
    cases hk : inB p u (n - 1)
    · have HN := Lib.hid (show lostL u n l p m = false from lost_no (fun h => in_not hk ⟨h.2.1, by have := h.2.2.1; omega⟩))
      have HI := Lib.hid hk
      have HJ := HI
      clear hk
      go_enter Try.func28, Try.ntmps28
      go_wp2_with fail
      rw [← H.out.2.2.2]
      refine (bd_ok_spec _ _ _ _ _ _ H.out.1 (by omega)).mono ?_
      rintro e w2 ⟨rfl, hg⟩
      rw [HK.out]
      have HG := Lib.hid hg
      clear hg
      have hbx := H.out.2.2.1.keep HG.out
      have b0 := hbx.c 0 (x := .int .i64 u) rfl
      have b1 := hbx.c 1 (x := .int .i64 n) rfl
      have b2 := hbx.c 2 (x := .slice a l.length c) rfl
      clear hbx
      go_wp2_with (go_at_call 33; refine (in_any _ _ _ _).mono ?_; rintro e w' ⟨rfl, rfl⟩; first | rw [HI.out] | rw [HJ.out])
      go_ret
      exact ⟨ret_b HN.out.symm, grownBy_trans H.out.2.1 HG.out⟩
    · have hpp := in_of hk
      have HI := Lib.hid hk
      clear hk
      cases hm : inB m 1 10000
      · have HN := Lib.hid (show lostL u n l p m = false from lost_no (fun h => in_not hm ⟨h.2.2.2.1, h.2.2.2.2.1⟩))
        have HJ := Lib.hid hm
        clear hm
        go_enter Try.func28, Try.ntmps28
        go_wp2_with fail
        rw [← H.out.2.2.2]
        refine (bd_ok_spec _ _ _ _ _ _ H.out.1 (by omega)).mono ?_
        rintro e w2 ⟨rfl, hg⟩
        rw [HK.out]
        have HG := Lib.hid hg
        clear hg
        have hbx := H.out.2.2.1.keep HG.out
        have b0 := hbx.c 0 (x := .int .i64 u) rfl
        have b1 := hbx.c 1 (x := .int .i64 n) rfl
        have b2 := hbx.c 2 (x := .slice a l.length c) rfl
        clear hbx
        go_wp2_with (go_at_call 33; refine (in_any _ _ _ _).mono ?_; rintro e w' ⟨rfl, rfl⟩; first | rw [HI.out] | rw [HJ.out])
        go_ret
        exact ⟨ret_b HN.out.symm, grownBy_trans H.out.2.1 HG.out⟩
      · have hmm := in_of hm
        have HJ := Lib.hid hm
        clear hm
        have hw3 : IntKind.i64.wrap (3 * m) = 3 * m := IntWalk.i64_in _ (by omega)
        go_enter Try.func28, Try.ntmps28
        go_wp2_with fail
        rw [← H.out.2.2.2]
        refine (bd_ok_spec _ _ _ _ _ _ H.out.1 (by omega)).mono ?_
        rintro e w2 ⟨rfl, hg⟩
        rw [HK.out]
        have HG := Lib.hid hg
        clear hg
        have hbx := H.out.2.2.1.keep HG.out
        have b0 := hbx.c 0 (x := .int .i64 u) rfl
        have b1 := hbx.c 1 (x := .int .i64 n) rfl
        have b2 := hbx.c 2 (x := .slice a l.length c) rfl
        clear hbx
        go_wp2_with (go_at_call 33; refine (in_any _ _ _ _).mono ?_; rintro e w' ⟨rfl, rfl⟩; first | rw [HI.out] | rw [HJ.out])
        clear b0 b1 b2
        go_loopw [7] (fun i wr => SaRel w2 l p i wr) (fun i _ => l.length - (intOf i).toNat)
        case atStart => exact ⟨0, Nat.zero_le _, rfl, World.grownBy.refl _ _, rfl⟩
        case round =>
          obtain ⟨j, hj, rfl, hg, hin⟩ := hrel
          have HS := Lib.hid (And.intro (grownBy_trans HG.out hg) (And.intro hg hin))
          clear hg hin
          have hbx := H.out.2.2.1.keep HS.out.1
          have b0 := hbx.c 0 (x := .int .i64 u) rfl
          have b1 := hbx.c 1 (x := .int .i64 n) rfl
          have b2 := hbx.c 2 (x := .slice a l.length c) rfl
          clear hbx
          by_cases hlt : j < l.length
          · rcases (H.out.1.kept HS.out.1) with h0 | ⟨b3, off1, rfl, hb1, hc⟩
            · rw [h0] at hlt
              simp at hlt
            · obtain ⟨c0, c1⟩ := hc j hlt
              clear hc
              have HN := Lib.hid (inL_next l p j hlt HS.out.2.2)
              have HM := Lib.hid (fun (h : (l[j]).1 ≤ p ∧ p < (l[j]).2) => inL_iff.2 ⟨_, List.getElem_mem hlt, h⟩)
              generalize l[j] = x at *
              obtain ⟨f, t⟩ := x
              dsimp only at c0 c1
              have hlt' : (j : Int) < (l.length : Int) := by omega
              have hj0 : (0 : Int) ≤ (j : Int) := by omega
              by_cases g1 : f ≤ p
              · by_cases g2 : p < t
                · have HQ := Lib.hid (show lostL u n l p m = false from lost_no (fun h => by have h1 := h.2.2.2.2.2.1; rw [HM.out ⟨g1, g2⟩] at h1; simp at h1))
                  go_wp2_with fail
                  go_ret
                  exact ⟨ret_b HQ.out.symm, grownBy_trans H.out.2.1 HS.out.1⟩
                · have HQ := Lib.hid (show inL (l.take (j + 1)) p = false by rw [HN.out]; exact decide_eq_false (fun h => by omega))
                  go_wp2_with fail
                  go_roundw
                  case rel => exact ⟨j + 1, hlt, by go_num, HS.out.2.1, HQ.out⟩
                  case measure => simp [intOf]; omega
              · have HQ := Lib.hid (show inL (l.take (j + 1)) p = false by rw [HN.out]; exact decide_eq_false (fun h => by omega))
                go_wp2_with fail
                go_roundw
                case rel => exact ⟨j + 1, hlt, by go_num, HS.out.2.1, HQ.out⟩
                case measure => simp [intOf]; omega
          · obtain rfl : j = l.length := by omega
            have HQ := Lib.hid (show inL l p = false by have h := HS.out.2.2; rw [List.take_length] at h; exact h)
            go_wp2_with fail
            refine (many_any u n a c l p _ (H.out.1.kept HS.out.1) (rgN_of HP.out) (by omega) (by omega) (by omega)).mono ?_
            rintro e w4 ⟨rfl, hg⟩
            have HX := Lib.hid (grownBy_trans (grownBy_trans H.out.2.1 HS.out.1) hg)
            clear hg b0 b1 b2
            by_cases hge : 3 * m ≤ manyR p l
            · have HR := Lib.hid (show lostL u n l p m = true from lost_yes ⟨HP.out, hpp.1, by omega, hmm.1, hmm.2, HQ.out, hge⟩)
              have hge2 : decide (3 * m ≤ manyR p l) = true := decide_eq_true hge
              go_wp2_with fail
              go_ret
              exact ⟨ret_b (by first | (rw [HR.out]; done) | (rw [HR.out]; exact hge2) | (rw [HR.out]; simpa using hge)), HX.out⟩
            · have HR := Lib.hid (show lostL u n l p m = false from lost_no (fun h => hge h.2.2.2.2.2.2))
              have hge2 : decide (3 * m ≤ manyR p l) = false := decide_eq_false hge
              go_wp2_with fail
              go_ret
              exact ⟨ret_b (by first | (rw [HR.out]; done) | (rw [HR.out]; exact hge2) | (rw [HR.out]; simpa using hge)), HX.out⟩

set_option maxRecDepth 100000 in
set_option maxHeartbeats 2000000 in
theorem lost_impl (u n : Int) (a : Option Addr) (c : Nat) (l : List Rg) (p m : Int) (w : World) (h : RgAt w a l) (hl : l.length ≤ 1048576) : Calls Try.prog 27 #[bdV u n a l.length c, .int .i64 p, .int .i64 m] w fun e w' => e = .returned (.bool (lostL u n l p m)) ∧ w.grownBy w' none := by
  obtain ⟨W1, hW⟩ : ∃ W1, W1 = w.alloc (.cells #[.int .i64 u, .int .i64 n, .slice a l.length c] 26) := ⟨_, rfl⟩
  have hA : w.grownBy W1 none := by rw [hW]; exact World.grownBy_alloc _ _ _
  have hb : Bx W1 w.heap.size 26 #[.int .i64 u, .int .i64 n, .slice a l.length c] := by rw [hW]; exact Bx.new _ _ _
  have H := Lib.hid (And.intro (h.kept hA) (And.intro hA (And.intro hb hW)))
  clear h hA hW hb
  cases hok : bdOk u n l
  · have HN := Lib.hid (show lostL u n l p m = false from lost_no (fun h => bd_not hok h.1))
    have HK := Lib.hid hok
    clear hok
    go_enter Try.func27, Try.ntmps27
    go_wp2_with fail
    rw [← H.out.2.2.2]
    refine (bd_ok_impl _ _ _ _ _ _ H.out.1).mono ?_
    rintro e w2 ⟨rfl, hg⟩
    rw [HK.out]
    have HG := Lib.hid hg
    clear hg
    have hbx := H.out.2.2.1.keep HG.out
    have b0 := hbx.c 0 (x := .int .i64 u) rfl
    have b1 := hbx.c 1 (x := .int .i64 n) rfl
    have b2 := hbx.c 2 (x := .slice a l.length c) rfl
    clear hbx
    go_wp2_with fail
    go_ret
    exact ⟨ret_b HN.out.symm, grownBy_trans H.out.2.1 HG.out⟩
  · have hp := bd_of hok
    have hn9 := hp.2.2.1
    have hu0 := hp.1
    have hun := hp.2.1
    have hl4 := hp.2.2.2.1
    have HP := Lib.hid hp
    have HK := Lib.hid hok
    clear hok hp
    by_cases hmm : 1 ≤ m ∧ m ≤ 10000
    · have HM := Lib.hid (decide_eq_true hmm)
      by_cases h2 : p < u
      · have HN := Lib.hid (show lostL u n l p m = false from lost_no (fun h => by have := h.2.1; omega))
        go_enter Try.func27, Try.ntmps27
        go_wp2_with fail
        rw [← H.out.2.2.2]
        refine (bd_ok_impl _ _ _ _ _ _ H.out.1).mono ?_
        rintro e w2 ⟨rfl, hg⟩
        rw [HK.out]
        have HG := Lib.hid hg
        clear hg
        have hbx := H.out.2.2.1.keep HG.out
        have b0 := hbx.c 0 (x := .int .i64 u) rfl
        have b1 := hbx.c 1 (x := .int .i64 n) rfl
        have b2 := hbx.c 2 (x := .slice a l.length c) rfl
        clear hbx
        go_wp2_with fail
        refine (mss_ok m _).mono ?_
        rintro e w3 ⟨rfl, rfl⟩
        rw [HM.out]
        go_wp2_with fail
        go_ret
        exact ⟨ret_b HN.out.symm, grownBy_trans H.out.2.1 HG.out⟩
      · by_cases h3 : n ≤ p
        · have HN := Lib.hid (show lostL u n l p m = false from lost_no (fun h => by have := h.2.2.1; omega))
          go_enter Try.func27, Try.ntmps27
          go_wp2_with fail
          rw [← H.out.2.2.2]
          refine (bd_ok_impl _ _ _ _ _ _ H.out.1).mono ?_
          rintro e w2 ⟨rfl, hg⟩
          rw [HK.out]
          have HG := Lib.hid hg
          clear hg
          have hbx := H.out.2.2.1.keep HG.out
          have b0 := hbx.c 0 (x := .int .i64 u) rfl
          have b1 := hbx.c 1 (x := .int .i64 n) rfl
          have b2 := hbx.c 2 (x := .slice a l.length c) rfl
          clear hbx
          go_wp2_with fail
          refine (mss_ok m _).mono ?_
          rintro e w3 ⟨rfl, rfl⟩
          rw [HM.out]
          go_wp2_with fail
          go_ret
          exact ⟨ret_b HN.out.symm, grownBy_trans H.out.2.1 HG.out⟩
        · have hpp : u ≤ p ∧ p ≤ n - 1 := ⟨by omega, by omega⟩
          have hw3 : IntKind.i64.wrap (3 * m) = 3 * m := IntWalk.i64_in _ (by omega)
          cases hin : inL l p
          · have HI := Lib.hid hin
            have HQ := HI
            clear hin
            go_enter Try.func27, Try.ntmps27
            go_wp2_with fail
            rw [← H.out.2.2.2]
            refine (bd_ok_impl _ _ _ _ _ _ H.out.1).mono ?_
            rintro e w2 ⟨rfl, hg⟩
            rw [HK.out]
            have HG := Lib.hid hg
            clear hg
            have hbx := H.out.2.2.1.keep HG.out
            have b0 := hbx.c 0 (x := .int .i64 u) rfl
            have b1 := hbx.c 1 (x := .int .i64 n) rfl
            have b2 := hbx.c 2 (x := .slice a l.length c) rfl
            clear hbx
            go_wp2_with fail
            refine (mss_ok m _).mono ?_
            rintro e w3 ⟨rfl, rfl⟩
            rw [HM.out]
            go_wp2_with fail
            refine (in_impl u n a c l p _ (H.out.1.kept HG.out) hl).mono ?_
            rintro e w4 ⟨rfl, hg⟩
            rw [HI.out]
            have HG4 := Lib.hid (grownBy_trans HG.out hg)
            clear hg b0 b1 b2
            have hbx := H.out.2.2.1.keep HG4.out
            have b0 := hbx.c 0 (x := .int .i64 u) rfl
            have b1 := hbx.c 1 (x := .int .i64 n) rfl
            have b2 := hbx.c 2 (x := .slice a l.length c) rfl
            clear hbx
            go_wp2_with fail
            refine (beyond_any a c l p _ (H.out.1.kept HG4.out) (by omega) (by omega) (by omega)).mono ?_
            rintro e w5 ⟨v5, rfl, hg, ho⟩
            obtain ⟨a5, c5, rfl⟩ := own_slice ho
            have HG5 := Lib.hid (grownBy_trans HG4.out hg)
            have HO := Lib.hid (OwnRg.at ho)
            clear hg ho b0 b1 b2
            go_wp2_with fail
            refine (bytes_in a5 c5 (beyF p l) _ HO.out (bey_rgN HP.out (by omega) (by omega)) (by have := beyF_len p l; omega)).mono ?_
            rintro e w6 ⟨rfl, hg⟩
            rw [bey_many l HQ.out (fun x hx => (HP.out.2.2.2.2.1 x hx).2.1)]
            have HX := Lib.hid (grownBy_trans (grownBy_trans H.out.2.1 HG5.out) hg)
            clear hg
            by_cases hge : 3 * m ≤ manyR p l
            · have HR := Lib.hid (show lostL u n l p m = true from lost_yes ⟨HP.out, hpp.1, by omega, hmm.1, hmm.2, HQ.out, hge⟩)
              have hge2 : decide (3 * m ≤ manyR p l) = true := decide_eq_true hge
              go_wp2_with fail
              go_ret
              exact ⟨ret_b (by first | (rw [HR.out]; done) | (rw [HR.out]; exact hge2) | (rw [HR.out]; simpa using hge)), HX.out⟩
            · have HR := Lib.hid (show lostL u n l p m = false from lost_no (fun h => hge h.2.2.2.2.2.2))
              have hge2 : decide (3 * m ≤ manyR p l) = false := decide_eq_false hge
              go_wp2_with fail
              go_ret
              exact ⟨ret_b (by first | (rw [HR.out]; done) | (rw [HR.out]; exact hge2) | (rw [HR.out]; simpa using hge)), HX.out⟩
          · have HI := Lib.hid hin
            have HN := Lib.hid (show lostL u n l p m = false from lost_no (fun h => by have h1 := h.2.2.2.2.2.1; rw [HI.out] at h1; simp at h1))
            clear hin
            go_enter Try.func27, Try.ntmps27
            go_wp2_with fail
            rw [← H.out.2.2.2]
            refine (bd_ok_impl _ _ _ _ _ _ H.out.1).mono ?_
            rintro e w2 ⟨rfl, hg⟩
            rw [HK.out]
            have HG := Lib.hid hg
            clear hg
            have hbx := H.out.2.2.1.keep HG.out
            have b0 := hbx.c 0 (x := .int .i64 u) rfl
            have b1 := hbx.c 1 (x := .int .i64 n) rfl
            have b2 := hbx.c 2 (x := .slice a l.length c) rfl
            clear hbx
            go_wp2_with fail
            refine (mss_ok m _).mono ?_
            rintro e w3 ⟨rfl, rfl⟩
            rw [HM.out]
            go_wp2_with fail
            refine (in_impl u n a c l p _ (H.out.1.kept HG.out) hl).mono ?_
            rintro e w4 ⟨rfl, hg⟩
            rw [HI.out]
            have HG4 := Lib.hid (grownBy_trans HG.out hg)
            clear hg b0 b1 b2
            have hbx := H.out.2.2.1.keep HG4.out
            have b0 := hbx.c 0 (x := .int .i64 u) rfl
            have b1 := hbx.c 1 (x := .int .i64 n) rfl
            have b2 := hbx.c 2 (x := .slice a l.length c) rfl
            clear hbx
            go_wp2_with fail
            go_ret
            exact ⟨ret_b HN.out.symm, grownBy_trans H.out.2.1 HG4.out⟩
    · have HN := Lib.hid (show lostL u n l p m = false from lost_no (fun h => hmm ⟨h.2.2.2.1, h.2.2.2.2.1⟩))
      have HM := Lib.hid (decide_eq_false hmm)
      clear hmm
      go_enter Try.func27, Try.ntmps27
      go_wp2_with fail
      rw [← H.out.2.2.2]
      refine (bd_ok_impl _ _ _ _ _ _ H.out.1).mono ?_
      rintro e w2 ⟨rfl, hg⟩
      rw [HK.out]
      have HG := Lib.hid hg
      clear hg
      have hbx := H.out.2.2.1.keep HG.out
      have b0 := hbx.c 0 (x := .int .i64 u) rfl
      have b1 := hbx.c 1 (x := .int .i64 n) rfl
      have b2 := hbx.c 2 (x := .slice a l.length c) rfl
      clear hbx
      go_wp2_with fail
      refine (mss_ok m _).mono ?_
      rintro e w3 ⟨rfl, rfl⟩
      rw [HM.out]
      go_wp2_with fail
      go_ret
      exact ⟨ret_b HN.out.symm, grownBy_trans H.out.2.1 HG.out⟩

end Go.Proofs.Ytedgfiagefhahaa
