/- The laws' own marking of ranges, and whether the marks are held. -/
import Derived.Test.YtobibbfamkjlaaaPcHoS
namespace Go.Proofs.Ytobibbfamkjlaaa
open Go.RowKit

def mkR (n : Nat) : List Rg := (List.range n).map fun (i : Nat) => (1 + 2 * (i : Int), 2 + 2 * (i : Int))
theorem mkR_len (n : Nat) : (mkR n).length = n := by simp [mkR]
theorem mkR_at (n j : Nat) (h : j < (mkR n).length) : (mkR n)[j] = (1 + 2 * (j : Int), 2 + 2 * (j : Int)) := by simp [mkR]

def RkRel (w : World) (base g cap n : Nat) (l : List Rg) (k i : Value) (wr : World) : Prop :=
  ∃ j : Nat, j ≤ n ∧ i = .int .i64 j ∧ k = .int .i64 (1 + 2 * (j : Int)) ∧ w.grownBy wr (some g) ∧ wr.ownsRow base 35 2 (.slice (some ⟨g, 0, none⟩) n cap) n (rgsV ((mkR n).take j) ++ (rgsV l).drop (j * 2))

set_option maxRecDepth 100000 in
set_option maxHeartbeats 1000000 in
theorem rmark_some (base g cap : Nat) (l : List Rg) (w : World) (hl : l.length ≤ 100) (h : w.ownsRow base 35 2 (.slice (some ⟨g, 0, none⟩) l.length cap) l.length (rgsV l)) :
    Calls Try.prog 24 #[.slice (some ⟨g, 0, none⟩) l.length cap, .int .i64 1] w fun e w' => e = .returned (.int .i64 (1 + 2 * (l.length : Int))) ∧ w.grownBy w' (some g) ∧ w'.ownsRow base 35 2 (.slice (some ⟨g, 0, none⟩) l.length cap) l.length (rgsV (mkR l.length)) := by
  have H := Lib.hid h
  clear h
  go_enter Try.func24, Try.ntmps24
  go_wp2_with fail
  go_loopw [1, 5] (fun k i wr => RkRel w base g cap l.length l k i wr) (fun _ i _ => l.length - (intOf i).toNat)
  case atStart => exact ⟨0, Nat.zero_le _, rfl, rfl, World.grownBy.refl _ _, by simpa [rgsV] using H.out⟩
  case round =>
    obtain ⟨j, hj, rfl, rfl, hg, hown⟩ := hrel
    have HR := Lib.hid (And.intro hg hown)
    clear hg
    by_cases hlt : j < l.length
    · have hlt' : (j : Int) < (l.length : Int) := by omega
      have hML : (mkR l.length).length = l.length := mkR_len _
      have HN := Lib.hid (rgs_set (mkR l.length) (rgsV l) j (by omega) (by rw [rgsV_len, hML]))
      have HAT := Lib.hid (mkR_at l.length j (by omega))
      have hl2 := hown.1
      obtain ⟨y0, d0⟩ : ∃ y, wr.cell? ⟨g, j * 2, none⟩ = some y := by
        rw [hown.cellAt (j * 2) (by omega)]
        exact ⟨_, List.getElem?_eq_getElem (by omega)⟩
      have f0 := hown.frozenAt (j * 2)
      have hs1 := hown.stored (j * 2) (.int .i64 (1 + 2 * (j : Int)))
      have f2 := hs1.1.frozenAt (j * 2 + 1)
      obtain ⟨y, d2⟩ : ∃ y, (wr.setCell ⟨g, j * 2, none⟩ (.int .i64 (1 + 2 * (j : Int)))).cell? ⟨g, j * 2 + 1, none⟩ = some y := by
        rw [hs1.1.cellAt (j * 2 + 1) (by omega)]
        exact ⟨_, List.getElem?_eq_getElem (by rw [List.length_set]; omega)⟩
      have hs2 := hs1.1.stored (j * 2 + 1) (.int .i64 (2 + 2 * (j : Int)))
      have hs3 := hs2.1
      have hne := HN.out
      rw [HAT.out] at hne
      dsimp only at hne
      rw [hne] at hs3
      have HW := Lib.hid (And.intro hs3 (grownBy_trans (grownBy_trans HR.out.1 hs1.2) hs2.2))
      have hq1 : IntKind.i64.wrap (1 + 2 * (j : Int) + 1) = 2 + 2 * (j : Int) := by rw [IntWalk.i64_in _ (by omega)]; omega
      have hq2 : IntKind.i64.wrap (2 + 2 * (j : Int) + 1) = 1 + 2 * ((j : Int) + 1) := by rw [IntWalk.i64_in _ (by omega)]; omega
      clear hown hl2 hs1 hs2 hs3 hne
      go_wp2_with fail
      go_roundw
      case rel => exact ⟨j + 1, hlt, by go_num, by first | (go_num; done) | (congr 1; omega) | rfl, HW.out.2, HW.out.1⟩
      case measure => simp [intOf]; omega
    · obtain rfl : j = l.length := by omega
      rw [List.take_of_length_le (by rw [mkR_len]; omega), List.drop_eq_nil_of_le (by rw [rgsV_len]; omega), List.append_nil] at hown
      have HW := Lib.hid (And.intro HR.out.1 hown)
      clear hown
      go_wp2_with fail
      go_ret
      exact ⟨rfl, HW.out.1, HW.out.2⟩

set_option maxRecDepth 100000 in
theorem rmark_nil (w : World) : Calls Try.prog 24 #[.slice none 0 0, .int .i64 1] w fun e w' => e = .returned (.int .i64 1) ∧ w = w' := by
  go_enter Try.func24, Try.ntmps24
  go_wp2_with fail
  refine wp_loop_rounds 1 ?_
  rw [rounds_succ]
  go_wp2_with fail
  go_ret
  exact ⟨rfl, rfl⟩

set_option maxRecDepth 100000 in
set_option maxHeartbeats 1000000 in
theorem rheld_any (a : Option Addr) (c n : Nat) (w : World) (h : RgAt w a (mkR n)) (hn : n ≤ 100) : Calls Try.prog 25 #[.slice a n c, .int .i64 1] w fun e w' => e = .returned (.int .i64 (1 + 2 * (n : Int))) ∧ w.grownBy w' none := by
  have H := Lib.hid h
  clear h
  have hML : (mkR n).length = n := mkR_len n
  go_enter Try.func25, Try.ntmps25
  go_wp2_with fail
  go_loopw [1, 5] (fun k i wr => HdRel w n k i wr) (fun _ i _ => n - (intOf i).toNat)
  case atStart => exact ⟨0, Nat.zero_le _, rfl, rfl, World.grownBy.refl _ _⟩
  case round =>
    obtain ⟨j, hj, rfl, rfl, hg⟩ := hrel
    have HS := Lib.hid hg
    clear hg
    by_cases hlt : j < n
    · rcases (H.out.kept HS.out) with h0 | ⟨b, off, rfl, hb, hc⟩
      · rw [h0] at hML
        simp at hML
        omega
      · obtain ⟨c0, c1⟩ := hc j (by omega)
        rw [mkR_at n j (by omega)] at c0 c1
        dsimp only at c0 c1
        clear hc
        have hlt' : (j : Int) < (n : Int) := by omega
        have hq1 : IntKind.i64.wrap (1 + 2 * (j : Int) + 1) = 2 + 2 * (j : Int) := by rw [IntWalk.i64_in _ (by omega)]; omega
        have hq2 : IntKind.i64.wrap (2 + 2 * (j : Int) + 1) = 1 + 2 * ((j : Int) + 1) := by rw [IntWalk.i64_in _ (by omega)]; omega
        go_wp2_with fail
        go_roundw
        case rel => exact ⟨j + 1, hlt, by go_num, by first | (go_num; done) | (congr 1; omega) | rfl, HS.out⟩
        case measure => simp [intOf]; omega
    · obtain rfl : j = n := by omega
      go_wp2_with fail
      go_ret
      exact ⟨rfl, HS.out⟩

theorem rmark_any (base : Nat) (ao : Option Addr) (cap : Nat) (l : List Rg) (w : World) (hl : l.length ≤ 100) (h : w.ownsRow base 35 2 (.slice ao l.length cap) l.length (rgsV l)) :
    Calls Try.prog 24 #[.slice ao l.length cap, .int .i64 1] w fun e w' => e = .returned (.int .i64 (1 + 2 * (l.length : Int))) ∧ w.grownBy w' (Value.ownBlock (.slice ao l.length cap)) ∧ w'.ownsRow base 35 2 (.slice ao l.length cap) l.length (rgsV (mkR l.length)) := by
  rcases h.2 with ⟨hv, h0⟩ | ⟨g, cap', cur, hv, _⟩
  · have e := List.length_eq_zero_iff.mp h0
    subst e
    simp at hv
    obtain ⟨rfl, rfl⟩ := hv
    refine (rmark_nil w).mono ?_
    rintro e w' ⟨rfl, rfl⟩
    exact ⟨rfl, World.grownBy.refl _ _, World.ownsRow_nil _ _ _ _⟩
  · simp at hv
    obtain ⟨rfl, rfl⟩ := hv
    exact rmark_some base g cap l w hl h

theorem rg_own {w : World} {base : Nat} {e : TypeId} {ao : Option Addr} {c : Nat} {l : List Rg} (h : w.ownsRow base e 2 (.slice ao l.length c) l.length (rgsV l)) : RgAt w ao l := by
  rcases h.2 with ⟨_, h0⟩ | ⟨g, cap', cur, hv, _⟩
  · exact .inl (List.length_eq_zero_iff.mp h0)
  · simp at hv
    obtain ⟨rfl, rfl⟩ := hv
    exact rgAt_own h rfl
theorem rg_mark {w : World} {base : Nat} {e : TypeId} {ao : Option Addr} {c n : Nat} (h : w.ownsRow base e 2 (.slice ao n c) n (rgsV (mkR n))) : RgAt w ao (mkR n) := by
  have hn := mkR_len n
  rcases h.2 with ⟨_, h0⟩ | ⟨g, cap', cur, hv, _⟩
  · exact .inl (List.length_eq_zero_iff.mp (by omega))
  · simp at hv
    obtain ⟨rfl, rfl⟩ := hv
    exact rgAt_own h hn.symm

theorem holesF_len (t : Int) : ∀ (l : List Pk) (a : Int), (holesF l a t).length ≤ l.length + 1
  | [], a => by have := hole_len a t; simpa [holesF] using this
  | p :: l, a => by
    have h1 := hole_len a (min p.1 t)
    have h2 := holesF_len t l (p.1 + (p.2.length : Int))
    rw [holesF, List.length_append, List.length_cons]
    omega
theorem holesL_len (l : List Pk) (t : Int) : (holesL l t).length ≤ 61 := by
  unfold holesL
  split
  · rename_i h
    have := (pcs_of h.1).1
    have := holesF_len t l 0
    omega
  · simp

end Go.Proofs.Ytobibbfamkjlaaa
