/- WdS -/
import Derived.Test.YtedhemllgpbheaaQ11
import Derived.Deep.QuietTactic
import Derived.BigQuiet
namespace Go.Proofs.Ytedhemllgpbheaa
open Go.RowKit
open P7 (Pk PkAt pcsOk prefL PcsP pcs_of pcs_yes pcs_not pc1)

set_option maxRecDepth 100000 in
theorem byte_S (f : Int) (j : Nat) (w : World) (h0 : 0 ≤ f) : Calls Try.prog 43 #[.int .i64 (f + (j : Int))] w fun e w' => (∃ B : UInt8, e = .returned (.int .u8 (B.toNat : Int)) ∧ strL f (j + 1) = strL f j ++ [B]) ∧ w = w' := by
  obtain ⟨R, B, hm1, hm2, hm3, hm4, hm5, hm6⟩ := char_at f j h0
  have HC := Lib.hid hm6
  clear hm6
  have hr : 0 ≤ R ∧ R < 26 := by omega
  have hm7 : IntKind.i64.wrap (97 + R) = 97 + R := IntWalk.i64_in _ (by omega)
  go_enter Try.func43, Try.ntmps43
  go_wp2_with fail
  go_ret
  exact ⟨⟨B, by first | rfl | simp [*], HC.out⟩, rfl⟩

set_option maxRecDepth 100000 in
set_option maxHeartbeats 1000000 in
theorem data_S (f t : Int) (w : World) (h0 : 0 ≤ f) (h1 : f ≤ t) (h2 : t ≤ 100000) : Calls Try.prog 35 #[.int .i64 f, .int .i64 t] w fun e w' => e = .returned (.string ⟨(strL f (t - f).toNat).toArray⟩) ∧ w.grownBy w' none := by
  obtain ⟨i0, hi, hz0, hz1, hz2⟩ := info_parts info5
  obtain ⟨K, hK⟩ : ∃ K : Nat, t - f = (K : Int) := ⟨(t - f).toNat, by omega⟩
  have HT := Lib.hid (show (t - f).toNat = K ∧ t = f + (K : Int) ∧ f + (K : Int) ≤ 100000 from ⟨by omega, by omega, by omega⟩)
  clear hK
  rw [HT.out.1]
  go_enter Try.func35, Try.ntmps35
  go_wp2_with fail
  go_loopw [5, 6] (fun v i wr => StRel w f K v i wr) (fun _ i _ => (t - intOf i).toNat)
  case atStart => exact ⟨0, Nat.zero_le _, by simp, World.grownBy_alloc _ _ _, World.ownsRow_lit w #[] 0 (Nat.le_refl _) (Nat.zero_le _) rfl⟩
  case round =>
    obtain ⟨j, hj, rfl, hg, hown⟩ := hrel
    have HR := Lib.hid (And.intro hg hown)
    clear hg hown
    by_cases hlt : j < K
    · have hlt' : f + (j : Int) < t := by have := HT.out.2.1; omega
      have hb : f + (j : Int) ≤ 100000 := by have := HT.out.2.2; omega
      have hw2 : IntKind.i64.wrap (f + (j : Int) + 1) = f + ((j + 1 : Nat) : Int) := by rw [IntWalk.i64_in _ (by omega)]; omega
      have hj2 : j ≤ 100000 := by omega
      go_wp2_with fail
      refine (byte_S f j _ h0).mono ?_
      rintro e w2 ⟨⟨B, rfl, hB⟩, rfl⟩
      have HC := Lib.hid hB
      clear hB
      go_wp2_with (at_builtin; refine wpList_append_own _ rfl _ _ 22 rfl w.heap.size 5 i0 (.int .u8 0) 1 1 Try.underlying22 hi hz0 hz1 hz2 rfl (by decide) _ _ _ rfl (HR.out.2.alloc _) ⟨wr.heap.size, 0, none⟩ 1 1 [.int .u8 (B.toNat : Int)] rfl rfl ?c1 ?c2 ?c3 ?c4 ?c5 ?_)
      case c1 => exact cell_one_new _ _ _
      case c2 => simp [Value.oneCell']
      case c3 => unfold maxLen; omega
      case c4 => omega
      case c5 => exact Nat.le_trans HR.out.1.size (World.grownBy_alloc _ _ none).size
      intro v' w3 hown1 hg1 _
      have H1 := Lib.hid (And.intro hown1 (row_grown (HR.out.2.alloc _) (grownBy_trans HR.out.1 (World.grownBy_alloc _ _ _)) hg1))
      clear hown1 hg1
      go_wp2_with fail
      go_roundw
      case rel =>
        refine ⟨j + 1, hlt, by go_num, H1.out.2, ?_⟩
        have e := H1.out.1
        rw [HC.out, bytesV, List.map_append, List.map_singleton]
        exact e
      case measure => simp [intOf]; omega
    · obtain rfl : j = K := by omega
      have hge : ¬ f + (j : Int) < t := by have := HT.out.2.1; omega
      have hc := conv_row (strL_len f j) HR.out.2
      go_wp2_with fail
      go_ret
      exact ⟨rfl, HR.out.1⟩

open Classical in
set_option maxRecDepth 100000 in
set_option maxHeartbeats 2000000 in
theorem had_S (a : Option Addr) (c : Nat) (l : List Pk) (x1 x2 : Int) (w : World) (h : PkAt w a l) (hl : l.length ≤ 1048576) (hp : ∀ p ∈ l, pc1 p) :
    Calls Try.prog 36 #[.slice a l.length c, .agg #[.int .i64 x1, .int .i64 x2]] w fun e w' => e = .returned (.bool (decide (hadL l (x1, x2)))) ∧ w.grownBy w' none := by
  have hg0 := World.grownBy_alloc w (.cells #[.int .i64 x1, .int .i64 x2] 44) none
  have H := Lib.hid (And.intro (h.kept hg0) (And.intro hg0 (Bx.new w 44 #[.int .i64 x1, .int .i64 x2])))
  have HP := Lib.hid hp
  clear h hg0 hp
  go_enter Try.func36, Try.ntmps36
  go_upto_region 1 with fail
  generalize w.alloc (.cells #[.int .i64 x1, .int .i64 x2] 44) = w1 at *
  generalize w.heap.size = B at *
  go_wp2_with fail
  go_loopw [5] (fun i wr => HaRel w1 l (x1, x2) i wr) (fun i _ => l.length - (intOf i).toNat)
  case atStart => exact ⟨0, Nat.zero_le _, rfl, World.grownBy.refl _ _, by simp⟩
  case round =>
    obtain ⟨j, hj, rfl, hg, hin⟩ := hrel
    have HS := Lib.hid (And.intro hg hin)
    clear hg hin
    by_cases hlt : j < l.length
    · obtain ⟨b1, off1, rfl, c0, c1⟩ := pk_cells (H.out.1.kept HS.out.1) hlt
      have HN := Lib.hid (fun h => all_more (P := fun p => ¬ inP (x1, x2) p) l j hlt HS.out.2 h)
      have HM := Lib.hid (show inP (x1, x2) l[j] → hadL l (x1, x2) from fun h => ⟨_, List.getElem_mem hlt, h⟩)
      have hpj := HP.out _ (List.getElem_mem hlt)
      generalize l[j] = x at *
      obtain ⟨q, b⟩ := x
      obtain ⟨hp0, hp1, hp2, hp3⟩ := hpj
      dsimp only at c0 c1 hp0 hp1 hp2 hp3
      have hlt' : (j : Int) < (l.length : Int) := by omega
      have hj0 : (0 : Int) ≤ (j : Int) := by omega
      have r0 := (H.out.2.2.keep HS.out.1).c 0 rfl
      have r1 := (H.out.2.2.keep HS.out.1).c 1 rfl
      have hw : IntKind.i64.wrap (q + (b.length : Int)) = q + (b.length : Int) := IntWalk.i64_in _ (by omega)
      by_cases g1 : q ≤ x1
      · have g1' : decide (q ≤ x1) = true := decide_eq_true g1
        by_cases g2 : x2 ≤ q + (b.length : Int)
        · have HQ := Lib.hid (HM.out ⟨g1, g2⟩)
          have g2' : decide (x2 ≤ q + (b.length : Int)) = true := decide_eq_true g2
          go_wp2_with fail
          go_quiet (fail)
          go_wp2_with fail
          go_ret
          exact ⟨ret_yes HQ.out, grownBy_trans H.out.2.1 (grownBy_trans HS.out.1 (grownBy_drewN _))⟩
        · have HQ := Lib.hid (HN.out (fun h => by have h2 := h.2; dsimp only at h2; omega))
          have g2' : decide (x2 ≤ q + (b.length : Int)) = false := decide_eq_false g2
          go_wp2_with fail
          go_quiet (fail)
          go_wp2_with fail
          go_roundw
          case rel => exact ⟨j + 1, hlt, by go_num, grownBy_trans HS.out.1 (grownBy_drewN _), HQ.out⟩
          case measure => simp [intOf]; omega
      · have HQ := Lib.hid (HN.out (fun h => by have h2 := h.1; dsimp only at h2; omega))
        have g1' : decide (q ≤ x1) = false := decide_eq_false g1
        go_wp2_with fail
        go_quiet (fail)
        go_wp2_with fail
        go_roundw
        case rel => exact ⟨j + 1, hlt, by go_num, grownBy_trans HS.out.1 (grownBy_drewN _), HQ.out⟩
        case measure => simp [intOf]; omega
    · obtain rfl : j = l.length := by omega
      have HQ := Lib.hid (show ¬ hadL l (x1, x2) by
        rintro ⟨p, hp, h⟩
        exact HS.out.2 p (by rw [List.take_length]; exact hp) h)
      go_wp2_with fail
      go_ret
      exact ⟨ret_no HQ.out, grownBy_trans H.out.2.1 HS.out.1⟩

end Go.Proofs.Ytedhemllgpbheaa

