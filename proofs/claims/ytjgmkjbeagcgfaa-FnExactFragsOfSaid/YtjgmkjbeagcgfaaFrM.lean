/- The laws' own marking of fragments, and whether the marks are held. -/
import Derived.Test.YtjgmkjbeagcgfaaFg
import Derived.IntWalk
namespace Go.Proofs.Ytjgmkjbeagcgfaa
open Go.RowKit

def mkF (n : Nat) : List Fg := (List.range n).map fun (i : Nat) => (⟨1 + 3 * (i : Int), false, mt (3 + 3 * i)⟩ : Fg)
theorem mkF_len (n : Nat) : (mkF n).length = n := by simp [mkF]
theorem mkF_at (n j : Nat) (h : j < (mkF n).length) : (mkF n)[j] = ⟨1 + 3 * (j : Int), false, mt (3 + 3 * j)⟩ := by simp [mkF]
def MkFRel (w : World) (base g cap n : Nat) (l : List Fg) (k i : Value) (wr : World) : Prop :=
  ∃ j : Nat, j ≤ n ∧ i = .int .i64 j ∧ k = .int .i64 (1 + 3 * (j : Int)) ∧ w.grownBy wr (some g) ∧ wr.ownsRow base 26 3 (.slice (some ⟨g, 0, none⟩) n cap) n (fgsV ((mkF n).take j) ++ (fgsV l).drop (j * 3))
theorem fg_mark {w : World} {base : Nat} {e : TypeId} {ao : Option Addr} {c n : Nat} (h : w.ownsRow base e 3 (.slice ao n c) n (fgsV (mkF n))) : FgAt w ao (mkF n) := by
  have hn := mkF_len n
  rcases h.2 with ⟨_, h0⟩ | ⟨g, cap', cur, hv, _⟩
  · exact .inl (List.length_eq_zero_iff.mp (by omega))
  · simp at hv
    obtain ⟨rfl, rfl⟩ := hv
    exact fgAt_own h hn.symm

set_option maxRecDepth 100000 in
set_option maxHeartbeats 2000000 in
theorem fmark_some (base g cap : Nat) (l : List Fg) (w : World) (hl : l.length ≤ 100000) (h : w.ownsRow base 26 3 (.slice (some ⟨g, 0, none⟩) l.length cap) l.length (fgsV l)) :
    Calls Try.prog 16 #[.slice (some ⟨g, 0, none⟩) l.length cap, .int .i64 1] w fun e w' => e = .returned (.int .i64 (1 + 3 * (l.length : Int))) ∧ w.grownBy w' (some g) ∧ w'.ownsRow base 26 3 (.slice (some ⟨g, 0, none⟩) l.length cap) l.length (fgsV (mkF l.length)) := by
  have H := Lib.hid h
  clear h
  go_enter Try.func16, Try.ntmps16
  go_wp2_with fail
  go_loopw [1, 5] (fun k i wr => MkFRel w base g cap l.length l k i wr) (fun _ i _ => l.length - (intOf i).toNat)
  case atStart => exact ⟨0, Nat.zero_le _, rfl, by simp, World.grownBy.refl _ _, by simpa [fgsV] using H.out⟩
  case round =>
    obtain ⟨j, hj, rfl, rfl, hg, hown⟩ := hrel
    have HR := Lib.hid (And.intro hg hown)
    clear hg
    by_cases hlt : j < l.length
    · have hlt' : (j : Int) < (l.length : Int) := by omega
      have hML : (mkF l.length).length = l.length := mkF_len _
      have HN := Lib.hid (fgs_set (mkF l.length) (fgsV l) j (by omega) (by rw [fgsV_len, hML]))
      have HAT := Lib.hid (mkF_at l.length j (by omega))
      have hl2 := hown.1
      obtain ⟨y0, d0⟩ : ∃ y, wr.cell? ⟨g, j * 3, none⟩ = some y := by
        rw [hown.cellAt (j * 3) (by omega)]
        exact ⟨_, List.getElem?_eq_getElem (by omega)⟩
      have f0 := hown.frozenAt (j * 3)
      have hs1 := hown.stored (j * 3) (.int .i64 (1 + 3 * (j : Int)))
      have ho1 := hs1.1
      obtain ⟨y1, d1⟩ : ∃ y, (wr.setCell ⟨g, j * 3, none⟩ (.int .i64 (1 + 3 * (j : Int)))).cell? ⟨g, j * 3 + 1, none⟩ = some y := by
        rw [ho1.cellAt (j * 3 + 1) (by omega)]
        exact ⟨_, List.getElem?_eq_getElem (by rw [List.length_set]; omega)⟩
      have f1 := ho1.frozenAt (j * 3 + 1)
      have hs2 := ho1.stored (j * 3 + 1) (.bool false)
      have HS1 := Lib.hid (And.intro hs2.1 (grownBy_trans hs1.2 hs2.2))
      have hq1 : IntKind.i64.wrap (1 + 3 * (j : Int) + 1) = 2 + 3 * (j : Int) := by rw [IntWalk.i64_in _ (by omega)]; omega
      have hq2 : IntKind.i64.wrap (2 + 3 * (j : Int) + 1) = 3 + 3 * (j : Int) := by rw [IntWalk.i64_in _ (by omega)]; omega
      have hq3 : IntKind.i64.wrap (3 + 3 * (j : Int) + 1) = 1 + 3 * ((j : Int) + 1) := by rw [IntWalk.i64_in _ (by omega)]; omega
      have hm3 : (2 + 3 * (j : Int)).tmod 3 = 2 := by rw [Int.tmod_eq_emod_of_nonneg (by omega)]; omega
      have hm4 : (2 + 3 * (j : Int)) % 3 = 2 := by omega
      clear hown hl2 hs1 ho1 hs2
      go_wp2_with fail
      refine (mark_text2 _ (3 + 3 * j) _ (by omega) (by omega) (by omega)).mono ?_
      rintro e w8 ⟨rfl, hg⟩
      have hown2 := HS1.out.1.kept hg (by simp [Value.ownBlock])
      have hl2 := hown2.1
      obtain ⟨y2, d2⟩ : ∃ y, w8.cell? ⟨g, j * 3 + 2, none⟩ = some y := by
        rw [hown2.cellAt (j * 3 + 2) (by omega)]
        exact ⟨_, List.getElem?_eq_getElem (by omega)⟩
      have f2 := hown2.frozenAt (j * 3 + 2)
      have hs2 := hown2.stored (j * 3 + 2) (.string ⟨(mt (3 + 3 * j)).toArray⟩)
      have hs3 := hs2.1
      have hne := HN.out
      rw [HAT.out] at hne
      dsimp only at hne
      rw [hne] at hs3
      have HW := Lib.hid (And.intro hs3 (grownBy_trans (grown_trans_none (grownBy_trans HR.out.1 HS1.out.2) hg) hs2.2))
      clear hg d0 f0 d1 f1 hown2 hl2 hs2 hs3 hne
      generalize mt (3 + 3 * j) = tx at *
      go_wp2_with fail
      go_roundw
      case rel => exact ⟨j + 1, hlt, by go_num, by first | (go_num; done) | (congr 1; omega) | rfl, HW.out.2, HW.out.1⟩
      case measure => simp [intOf]; omega
    · obtain rfl : j = l.length := by omega
      rw [List.take_of_length_le (by rw [mkF_len]; omega), List.drop_eq_nil_of_le (by rw [fgsV_len]; omega), List.append_nil] at hown
      have HW := Lib.hid (And.intro HR.out.1 hown)
      clear hown
      go_wp2_with fail
      go_ret
      exact ⟨rfl, HW.out.1, HW.out.2⟩

set_option maxRecDepth 100000 in
theorem fmark_nil (w : World) : Calls Try.prog 16 #[.slice none 0 0, .int .i64 1] w fun e w' => e = .returned (.int .i64 1) ∧ w = w' := by
  go_enter Try.func16, Try.ntmps16
  go_wp2_with fail
  refine wp_loop_rounds 1 ?_
  rw [rounds_succ]
  go_wp2_with fail
  go_ret
  exact ⟨rfl, rfl⟩

theorem fmark_any (base : Nat) (ao : Option Addr) (cap : Nat) (l : List Fg) (w : World) (hl : l.length ≤ 100000) (h : OwnFg w base ao cap l) :
    Calls Try.prog 16 #[.slice ao l.length cap, .int .i64 1] w fun e w' => e = .returned (.int .i64 (1 + 3 * (l.length : Int))) ∧ w.grownBy w' (Value.ownBlock (.slice ao l.length cap)) ∧ w'.ownsRow base 26 3 (.slice ao l.length cap) l.length (fgsV (mkF l.length)) := by
  rcases h.2 with ⟨hv, h0⟩ | ⟨g, cap', cur, hv, _⟩
  · have e := List.length_eq_zero_iff.mp h0
    subst e
    simp at hv
    obtain ⟨rfl, rfl⟩ := hv
    refine (fmark_nil w).mono ?_
    rintro e w' ⟨rfl, rfl⟩
    exact ⟨by simp, World.grownBy.refl _ _, World.ownsRow_nil _ _ _ _⟩
  · simp at hv
    obtain ⟨rfl, rfl⟩ := hv
    exact fmark_some base g cap l w hl h

def HdFRel (w : World) (n : Nat) (k i : Value) (wr : World) : Prop :=
  ∃ j : Nat, j ≤ n ∧ i = .int .i64 j ∧ k = .int .i64 (1 + 3 * (j : Int)) ∧ w.grownBy wr none

set_option maxRecDepth 100000 in
set_option maxHeartbeats 2000000 in
theorem fheld_any (a : Option Addr) (c n : Nat) (w : World) (h : FgAt w a (mkF n)) (hn : n ≤ 100000) : Calls Try.prog 17 #[.slice a n c, .int .i64 1] w fun e w' => e = .returned (.int .i64 (1 + 3 * (n : Int))) ∧ w.grownBy w' none := by
  have H := Lib.hid h
  clear h
  have hML : (mkF n).length = n := mkF_len n
  go_enter Try.func17, Try.ntmps17
  go_wp2_with fail
  go_loopw [1, 5] (fun k i wr => HdFRel w n k i wr) (fun _ i _ => n - (intOf i).toNat)
  case atStart => exact ⟨0, Nat.zero_le _, rfl, by simp, World.grownBy.refl _ _⟩
  case round =>
    obtain ⟨j, hj, rfl, rfl, hg⟩ := hrel
    have HS := Lib.hid hg
    clear hg
    by_cases hlt : j < n
    · rcases (H.out.kept HS.out) with h0 | ⟨b, off, rfl, hb, hc⟩
      · rw [h0] at hML
        simp at hML
        omega
      · obtain ⟨c0, c1, c2⟩ := hc j (by omega)
        rw [mkF_at n j (by omega)] at c0 c1 c2
        dsimp only at c0 c1 c2
        clear hc
        have hlt' : (j : Int) < (n : Int) := by omega
        have HTX := Lib.hid (mark_text2 (3 + 3 * (j : Int)) (3 + 3 * j) · (by omega) (by omega) (by omega))
        generalize mt (3 + 3 * j) = tx at *
        have hj0 : (0 : Int) ≤ (j : Int) := by omega
        have hq1 : IntKind.i64.wrap (1 + 3 * (j : Int) + 1) = 2 + 3 * (j : Int) := by rw [IntWalk.i64_in _ (by omega)]; omega
        have hq2 : IntKind.i64.wrap (2 + 3 * (j : Int) + 1) = 3 + 3 * (j : Int) := by rw [IntWalk.i64_in _ (by omega)]; omega
        have hq3 : IntKind.i64.wrap (3 + 3 * (j : Int) + 1) = 1 + 3 * ((j : Int) + 1) := by rw [IntWalk.i64_in _ (by omega)]; omega
        have hm3 : (2 + 3 * (j : Int)).tmod 3 = 2 := by rw [Int.tmod_eq_emod_of_nonneg (by omega)]; omega
        have hm4 : (2 + 3 * (j : Int)) % 3 = 2 := by omega
        have z0 : wr.drew.cell? ⟨b, off + j * 3 + 2, none⟩ = some (.string ⟨tx.toArray⟩) := c2
        have z1 := grownBy_trans HS.out (grownBy_drew (r := none))
        go_wp2_with fail
        go_region_held3 (fun w' => w'.cell? ⟨b, off + j * 3 + 2, none⟩ = some (.string ⟨tx.toArray⟩) ∧ w.grownBy w' none) ((refine ⟨by first | assumption | (simp [*]; done), by assumption⟩))
          (first | (go_at_call 30; refine (HTX.out _).mono ?_; rintro e w9 ⟨rfl, hg⟩; have q0 := hg.cell (a := ⟨b, off + j * 3 + 2, none⟩) (v := .string ⟨tx.toArray⟩) (by first | assumption | (simp [*]; done)) (by simp); have q1 := grownBy_trans (a := w) (by assumption) hg))
        have HZ := Lib.hid (by assumption : w.grownBy w9 none)
        go_wp2_with fail
        go_roundw
        case rel => exact ⟨j + 1, hlt, by go_num, by first | (go_num; done) | (congr 1; omega) | rfl, HZ.out⟩
        case measure => simp [intOf]; omega
    · obtain rfl : j = n := by omega
      go_wp2_with fail
      go_ret
      exact ⟨rfl, HS.out⟩

end Go.Proofs.Ytjgmkjbeagcgfaa
