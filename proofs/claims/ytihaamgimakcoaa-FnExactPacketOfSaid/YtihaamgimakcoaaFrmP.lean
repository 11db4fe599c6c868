/- The program's parts of a frame. -/
import Derived.Test.YtihaamgimakcoaaRow
import Derived.Test.YtihaamgimakcoaaFrmOk
namespace Go.Proofs.Ytihaamgimakcoaa
open Go.RowKit

def frmParts (f : Nat) (tagged : Bool) : List Part :=
  [.txt ⟨f, 0, none⟩ 6, .txt ⟨f, 1, none⟩ 6] ++ (if tagged then [.fix 33024 2, .num ⟨f, 2, none⟩ 2] else []) ++ [.num ⟨f, 3, none⟩ 2]

set_option maxRecDepth 100000 in
set_option maxHeartbeats 400000 in
theorem frm_parts1 (f : Nat) (w : World) : Calls Try.prog 69 #[.pointer (some ⟨f, 0, none⟩), .bool true] w (PartsPost w (frmParts f true)) := by
  go_enter Try.func69, Try.ntmps69
  obtain ⟨i0, hi, hz0, hz1, hz2⟩ := info_of infoPart
  go_wp2_with fail
  refine wp_region_still_tail 10 (by kernel_rfl) (by kernel_rfl) ?_
  change wpStill _ _ w.drew (fun a' => wpList _ _ _ _ a' w.drew) _ _
  simp only [List.take_succ_cons, List.take_zero, List.drop_succ_cons, List.drop_zero]
  have HD := Lib.hid (grownBy_drewN (a := w) (r := none) 1)
  change Hid (w.grownBy w.drew none) at HD
  generalize w.drew = w1 at HD ⊢
  have hsz := HD.out.size
  have HR := Lib.hid (row_new w1 #[Part.val (.txt ⟨f, 0, none⟩ 6), Part.val (.txt ⟨f, 1, none⟩ 6)] 125 2 [Part.val (.txt ⟨f, 0, none⟩ 6), Part.val (.txt ⟨f, 1, none⟩ 6)] (by simp [maxLen]) rfl rfl)
  have HA := Lib.hid (World.grownBy_alloc w1 (.cells #[Part.val (.txt ⟨f, 0, none⟩ 6), Part.val (.txt ⟨f, 1, none⟩ 6)] 125) none)
  simp only [Part.val] at HR HA
  repeat still_step
  try refine wpStill_nil ?_
  go_wp2_with (at_builtin; refine wpList_append_own _ rfl _ _ 91 rfl w1.heap.size 125 i0 .nilIface 1 16 Try.underlying91 hi hz0 hz1 hz2 rfl (by decide) _ _ _ rfl (HR.out.alloc _) ⟨_, 0, none⟩ 2 2 [Part.val (.fix 33024 2), Part.val (.num ⟨f, 2, none⟩ 2)] rfl rfl ?c1 ?c2 ?c3 ?c4 ?c5 ?_)
  case c1 => intro j u hu; simp only [Part.val] at hu; exact cells_new _ _ (by simp) _ _ j u hu
  case c2 => simp [Part.val, Value.oneCell']
  case c3 => simp [maxLen]
  case c4 => omega
  case c5 => exact Nat.le_trans HA.out.size (World.grownBy_alloc _ _ none).size
  intro v1 w2 hown hg _
  have H1 := Lib.hid (And.intro hown (And.intro (grown_row_none (grownBy_trans HD.out (grownBy_trans HA.out (World.grownBy_alloc _ _ none))) hg (HR.out.alloc _) hsz) (Nat.le_trans (Nat.le_trans HA.out.size (World.grownBy_alloc _ _ none).size) hg.size)))
  clear hown hg
  go_wp2_with (at_builtin; refine wpList_append_own _ rfl _ _ 91 rfl w1.heap.size 125 i0 .nilIface 1 16 Try.underlying91 hi hz0 hz1 hz2 rfl (by decide) _ _ _ rfl (H1.out.1.alloc _) ⟨_, 0, none⟩ 1 1 [Part.val (.num ⟨f, 3, none⟩ 2)] rfl rfl ?c1 ?c2 ?c3 ?c4 ?c5 ?_)
  case c1 => intro j u hu; simp only [Part.val] at hu; exact cells_new _ _ (by simp) _ _ j u hu
  case c2 => simp [Part.val, Value.oneCell']
  case c3 => simp [maxLen]
  case c4 => omega
  case c5 => exact Nat.le_trans H1.out.2.2 (World.grownBy_alloc _ _ none).size
  intro v2 w3 hown hg _
  have H2 := Lib.hid (And.intro hown (And.intro (grown_row_none (grownBy_trans H1.out.2.1 (World.grownBy_alloc _ _ none)) hg (H1.out.1.alloc _) hsz) True.intro))
  clear hown hg
  go_wp2_with fail
  go_ret
  obtain ⟨b, c, rfl, hb, hc⟩ := row_parts (frmParts f true) H2.out.1 (by simp [frmParts])
  exact ⟨b, c, rfl, Nat.le_trans hsz hb, H2.out.2.1, hc⟩

set_option maxRecDepth 100000 in
set_option maxHeartbeats 400000 in
theorem frm_parts0 (f : Nat) (w : World) : Calls Try.prog 69 #[.pointer (some ⟨f, 0, none⟩), .bool false] w (PartsPost w (frmParts f false)) := by
  go_enter Try.func69, Try.ntmps69
  obtain ⟨i0, hi, hz0, hz1, hz2⟩ := info_of infoPart
  go_wp2_with fail
  refine wp_region_still_tail 10 (by kernel_rfl) (by kernel_rfl) ?_
  change wpStill _ _ w.drew (fun a' => wpList _ _ _ _ a' w.drew) _ _
  simp only [List.take_succ_cons, List.take_zero, List.drop_succ_cons, List.drop_zero]
  have HD := Lib.hid (grownBy_drewN (a := w) (r := none) 1)
  change Hid (w.grownBy w.drew none) at HD
  generalize w.drew = w1 at HD ⊢
  have hsz := HD.out.size
  have HR := Lib.hid (row_new w1 #[Part.val (.txt ⟨f, 0, none⟩ 6), Part.val (.txt ⟨f, 1, none⟩ 6)] 125 2 [Part.val (.txt ⟨f, 0, none⟩ 6), Part.val (.txt ⟨f, 1, none⟩ 6)] (by simp [maxLen]) rfl rfl)
  have HA := Lib.hid (World.grownBy_alloc w1 (.cells #[Part.val (.txt ⟨f, 0, none⟩ 6), Part.val (.txt ⟨f, 1, none⟩ 6)] 125) none)
  simp only [Part.val] at HR HA
  repeat still_step
  try refine wpStill_nil ?_
  go_wp2_with (at_builtin; refine wpList_append_own _ rfl _ _ 91 rfl w1.heap.size 125 i0 .nilIface 1 16 Try.underlying91 hi hz0 hz1 hz2 rfl (by decide) _ _ _ rfl (HR.out.alloc _) ⟨_, 0, none⟩ 1 1 [Part.val (.num ⟨f, 3, none⟩ 2)] rfl rfl ?c1 ?c2 ?c3 ?c4 ?c5 ?_)
  case c1 => intro j u hu; simp only [Part.val] at hu; exact cells_new _ _ (by simp) _ _ j u hu
  case c2 => simp [Part.val, Value.oneCell']
  case c3 => simp [maxLen]
  case c4 => omega
  case c5 => exact Nat.le_trans HA.out.size (World.grownBy_alloc _ _ none).size
  intro v2 w3 hown hg _
  have H2 := Lib.hid (And.intro hown (And.intro (grown_row_none (grownBy_trans HD.out (grownBy_trans HA.out (World.grownBy_alloc _ _ none))) hg (HR.out.alloc _) hsz) True.intro))
  clear hown hg
  go_wp2_with fail
  go_ret
  obtain ⟨b, c, rfl, hb, hc⟩ := row_parts (frmParts f false) H2.out.1 (by simp [frmParts])
  exact ⟨b, c, rfl, Nat.le_trans hsz hb, H2.out.2.1, hc⟩

end Go.Proofs.Ytihaamgimakcoaa
