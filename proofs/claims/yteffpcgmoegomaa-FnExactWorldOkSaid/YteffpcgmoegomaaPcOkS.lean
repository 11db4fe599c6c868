/- Whether pieces are right: the model's; one piece that is added. -/
import Derived.Test.YteffpcgmoegomaaPcMath
namespace Go.Proofs.Yteffpcgmoegomaa.P7
open Go.RowKit

theorem in_q (n a b : Int) (v : Bool) (h : inB n a b = v) (w : World) (k : Nat) : Calls Try.prog 22 #[.int .i64 n, .int .i64 a, .int .i64 b] (w.drewN k) fun e w'' => e = .returned (.bool v) ∧ ∃ m, w'' = w.drewN m :=
  (in_any n a b _).mono (by rintro e w' ⟨rfl, rfl⟩; exact ⟨by rw [h], k, rfl⟩)

def PsRel (w : World) (l : List Pk) (i : Value) (wr : World) : Prop :=
  ∃ j : Nat, j ≤ l.length ∧ i = .int .i64 j ∧ w.grownBy wr none ∧ (∀ x ∈ l.take j, pc1 x) ∧ ApartTo l j

set_option maxRecDepth 100000 in
set_option maxHeartbeats 20000000 in
theorem ok_spec (a : Option Addr) (c : Nat) (l : List Pk) (w : World) (h : PkAt w a l) (hl : l.length ≤ 9223372036854775807) : Calls Try.prog 25 #[.slice a l.length c] w fun e w' => e = .returned (.bool (pcsOk l)) ∧ w.grownBy w' none := by
  have H := Lib.hid h
  clear h
  go_enter Try.func25, Try.ntmps25
  go_wp2_with fail
  go_loopw [3] (fun i wr => PsRel w l i wr) (fun i _ => l.length - (intOf i).toNat)
  case atStart => exact ⟨0, Nat.zero_le _, rfl, World.grownBy.refl _ _, by simp, fun i h h2 => absurd h2 (by omega)⟩
  case round =>
    obtain ⟨j, hj, hi, hg, hall, hap⟩ := hrel
    have HS := Lib.hid (And.intro hg (And.intro hall hap))
    clear hg hall hap
    by_cases hlt : j < l.length
    · rcases (H.out.kept HS.out.1) with h0 | ⟨b, off, rfl, hb, hc⟩
      · rw [h0] at hlt
        simp at hlt
      · obtain ⟨c0, c1⟩ := hc j hlt
        have HC := Lib.hid hc
        clear hc
        have HX := Lib.hid (fun hx => all_next (P := pc1) l j hlt HS.out.2.1 hx)
        have HY := Lib.hid (show ¬ pc1 l[j] → ¬ PcsP l from fun hn hp => hn (hp.2.1 _ (List.getElem_mem hlt)))
        have HZ := Lib.hid (show ∀ k, j = k + 1 → ∃ x : Pk, pc1 x ∧ wr.cell? ⟨b, off + k * 2, none⟩ = some (.int .i64 x.1) ∧ wr.cell? ⟨b, off + k * 2 + 1, none⟩ = some (.string ⟨x.2.toArray⟩) ∧ (x.1 + (x.2.length : Int) < l[j].1 → ApartTo l (j + 1)) ∧ (¬ x.1 + (x.2.length : Int) < l[j].1 → ¬ PcsP l) from fun k hk => by
          subst hk
          have hk2 : k < l.length := by omega
          obtain ⟨d0, d1⟩ := HC.out k hk2
          refine ⟨l[k], HS.out.2.1 _ (by rw [List.mem_take_iff_getElem]; exact ⟨k, by omega, rfl⟩), d0, d1, fun hh i h h2 => ?_, fun hh hp => hh (hp.2.2 k hlt)⟩
          by_cases e : i = k
          · subst e; exact hh
          · exact HS.out.2.2 i h (by omega))
        have HZ0 := Lib.hid (show j = 0 → ApartTo l (j + 1) from fun e i h h2 => by omega)
        by_cases hj0 : j = 0
        · have HZ1 := Lib.hid (HZ0.out hj0)
          subst hj0
          have hi2 : _ = Value.int .i64 0 := hi
          clear hi
          subst hi2
          simp only [Nat.zero_mul, Nat.add_zero] at c0 c1
          have hlt' : (0 : Int) < (l.length : Int) := by omega
          generalize l[0] = x at *
          obtain ⟨t, m⟩ := x
          dsimp only at c0 c1
          cases ht : inB t 0 6000
          · have HN := Lib.hid (show ¬ PcsP l from HY.out fun hh => in_not ht ⟨hh.1, hh.2.1⟩)
            go_wp2_with fail
            go_quiet ((go_at_call 22; exact in_q _ _ _ _ ht _ _))
            go_wp2_with fail
            go_ret
            exact ⟨ret_b (pcs_no HN.out).symm, grownBy_trans HS.out.1 (grownBy_drewN _)⟩
          · by_cases hm0 : m.length = 0
            · have hb0 : ((m.length : Int) == 0) = true := by rw [beq_iff_eq]; omega
              have HN := Lib.hid (show ¬ PcsP l from HY.out fun hh => by have := hh.2.2.1; have : 1 ≤ m.length := this; omega)
              go_wp2_with fail
              go_quiet ((go_at_call 22; exact in_q _ _ _ _ ht _ _))
              go_wp2_with fail
              go_ret
              exact ⟨ret_b (pcs_no HN.out).symm, grownBy_trans HS.out.1 (grownBy_drewN _)⟩
            · have hb0 : ((m.length : Int) == 0) = false := by rw [beq_eq_false_iff_ne]; omega
              by_cases hm1 : 6000 < m.length
              · have hb1 : 6000 < (m.length : Int) := by omega
                have HN := Lib.hid (show ¬ PcsP l from HY.out fun hh => by have := hh.2.2.2; have : m.length ≤ 6000 := this; omega)
                go_wp2_with fail
                go_quiet ((go_at_call 22; exact in_q _ _ _ _ ht _ _))
                go_wp2_with fail
                go_ret
                exact ⟨ret_b (pcs_no HN.out).symm, grownBy_trans HS.out.1 (grownBy_drewN _)⟩
              · have hb1 : ¬ 6000 < (m.length : Int) := by omega
                have hb2 : decide (6000 < (m.length : Int)) = false := decide_eq_false hb1
                have HA := Lib.hid (show ApartTo l (0 + 1) from HZ1.out)
                have HO := Lib.hid (HX.out ⟨(in_of ht).1, (in_of ht).2, by show 1 ≤ m.length; omega, by show m.length ≤ 6000; omega⟩)
                go_wp2_with fail
                go_quiet ((go_at_call 22; exact in_q _ _ _ _ ht _ _))
                go_wp2_with fail
                go_roundw
                case rel => exact ⟨1, hlt, by first | rfl | go_num, grownBy_trans HS.out.1 (grownBy_drewN _), HO.out, HA.out⟩
                case measure => simp [intOf]; omega
        · obtain ⟨k, rfl⟩ : ∃ k, j = k + 1 := ⟨j - 1, by omega⟩
          have hi2 : _ = Value.int .i64 ((k : Int) + 1) := hi
          clear hi
          subst hi2
          clear hj0
          have hk0 : (0 : Int) ≤ (k : Int) := by omega
          have hk1 : (0 : Int) < (k : Int) + 1 := by omega
          have hk2 : (0 : Int) ≤ (k : Int) + 1 := by omega
          have hk3 : (k : Int) < (l.length : Int) := by omega
          have hk4 : k < l.length := by omega
          have hk5 : IntKind.i64.wrap (k : Int) = k := IntWalk.i64_in _ (by omega)
          have hk6 : IntKind.i64.wrap ((k : Int) + 1 - 1) = k := by rw [IntWalk.i64_in _ (by omega)]; omega
          have hk8 : ((k : Int) + 1).toNat = k + 1 := by omega
          have hlt2 : (k : Int) + 1 < (l.length : Int) := by omega
          generalize l[k + 1] = x at *
          obtain ⟨t, m⟩ := x
          dsimp only at c0 c1
          cases ht : inB t 0 6000
          · have HN := Lib.hid (show ¬ PcsP l from HY.out fun hh => in_not ht ⟨hh.1, hh.2.1⟩)
            go_wp2_with fail
            go_quiet ((go_at_call 22; exact in_q _ _ _ _ ht _ _))
            go_wp2_with fail
            go_ret
            exact ⟨ret_b (pcs_no HN.out).symm, grownBy_trans HS.out.1 (grownBy_drewN _)⟩
          · by_cases hm0 : m.length = 0
            · have hb0 : ((m.length : Int) == 0) = true := by rw [beq_iff_eq]; omega
              have HN := Lib.hid (show ¬ PcsP l from HY.out fun hh => by have := hh.2.2.1; have : 1 ≤ m.length := this; omega)
              go_wp2_with fail
              go_quiet ((go_at_call 22; exact in_q _ _ _ _ ht _ _))
              go_wp2_with fail
              go_ret
              exact ⟨ret_b (pcs_no HN.out).symm, grownBy_trans HS.out.1 (grownBy_drewN _)⟩
            · have hb0 : ((m.length : Int) == 0) = false := by rw [beq_eq_false_iff_ne]; omega
              by_cases hm1 : 6000 < m.length
              · have hb1 : 6000 < (m.length : Int) := by omega
                have HN := Lib.hid (show ¬ PcsP l from HY.out fun hh => by have := hh.2.2.2; have : m.length ≤ 6000 := this; omega)
                go_wp2_with fail
                go_quiet ((go_at_call 22; exact in_q _ _ _ _ ht _ _))
                go_wp2_with fail
                go_ret
                exact ⟨ret_b (pcs_no HN.out).symm, grownBy_trans HS.out.1 (grownBy_drewN _)⟩
              · have hb1 : ¬ 6000 < (m.length : Int) := by omega
                have hb2 : decide (6000 < (m.length : Int)) = false := decide_eq_false hb1
                obtain ⟨x, ⟨p00, p01, p02, p03⟩, d0, d1, hy, hn⟩ := HZ.out k rfl
                have HYN := Lib.hid (And.intro hy hn)
                clear hy hn
                obtain ⟨t2, m2⟩ := x
                dsimp only at p00 p01 p02 p03 d0 d1 HYN
                have hk7 : IntKind.i64.wrap (t2 + (m2.length : Int)) = t2 + m2.length := IntWalk.i64_in _ (by omega)
                by_cases hgp : t2 + (m2.length : Int) < t
                · have hgp' : ¬ t ≤ t2 + (m2.length : Int) := by omega
                  have hgp2 : decide (t ≤ t2 + (m2.length : Int)) = false := decide_eq_false hgp'
                  have HA := Lib.hid (show ApartTo l (k + 1 + 1) from HYN.out.1 hgp)
                  have HO := Lib.hid (HX.out ⟨(in_of ht).1, (in_of ht).2, by show 1 ≤ m.length; omega, by show m.length ≤ 6000; omega⟩)
                  go_wp2_with fail
                  go_quiet ((go_at_call 22; exact in_q _ _ _ _ ht _ _))
                  go_wp2_with fail
                  go_roundw
                  case rel => exact ⟨k + 1 + 1, hlt, by go_num, grownBy_trans HS.out.1 (grownBy_drewN _), HO.out, HA.out⟩
                  case measure => simp [intOf]; omega
                · have hgp' : t ≤ t2 + (m2.length : Int) := by omega
                  have HN := Lib.hid (show ¬ PcsP l from HYN.out.2 hgp)
                  go_wp2_with fail
                  go_quiet ((go_at_call 22; exact in_q _ _ _ _ ht _ _))
                  go_wp2_with fail
                  go_ret
                  exact ⟨ret_b (pcs_no HN.out).symm, grownBy_trans HS.out.1 (grownBy_drewN _)⟩
    · obtain rfl : j = l.length := by omega
      subst hi
      have HP := Lib.hid (show l.length ≤ 60 → PcsP l from fun h => ⟨h, fun x hx => HS.out.2.1 x (by rw [List.take_length]; exact hx), fun i h => HS.out.2.2 i h h⟩)
      by_cases h60 : l.length ≤ 60
      · have h60' : (l.length : Int) ≤ 60 := by omega
        go_wp2_with fail
        go_ret
        exact ⟨ret_b (by rw [pcs_yes (HP.out h60)]), HS.out.1⟩
      · have h60' : ¬ (l.length : Int) ≤ 60 := by omega
        go_wp2_with fail
        go_ret
        exact ⟨ret_b (by rw [pcs_no fun hh => h60 hh.1]), HS.out.1⟩

end Go.Proofs.Yteffpcgmoegomaa.P7
