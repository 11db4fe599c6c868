/- The program's parts of a segment's head. -/
import Derived.Test.YthfhffcimjolgaaRow
import Derived.Test.YthfhffcimjolgaaTcpSum
namespace Go.Proofs.Ythfhffcimjolgaa
open Go.RowKit

def tcpParts (h : Nat) : List Part :=
  [.num ⟨h, 0, none⟩ 2, .num ⟨h, 1, none⟩ 2, .num ⟨h, 2, none⟩ 4, .num ⟨h, 3, none⟩ 4, .num ⟨h, 8, none⟩ 1, .num ⟨h, 4, none⟩ 1, .num ⟨h, 5, none⟩ 2, .num ⟨h, 9, none⟩ 2, .num ⟨h, 10, none⟩ 2]

set_option maxRecDepth 100000 in
set_option maxHeartbeats 400000 in
theorem tcp_parts (h : Nat) (w : World) : Calls Try.prog 22 #[.pointer (some ⟨h, 0, none⟩)] w (PartsPost w (tcpParts h)) := by
  go_enter Try.func22, Try.ntmps22
  obtain ⟨i0, hi, hz0, hz1, hz2⟩ := info_of infoPart
  go_wp2_with fail
  refine wp_region_still_tail 51 (by kernel_rfl) (by kernel_rfl) ?_
  change wpStill _ _ w.drew (fun a' => wpList _ _ _ _ a' w.drew) _ _
  simp only [List.take_succ_cons, List.take_zero, List.drop_succ_cons, List.drop_zero]
  have HD := Lib.hid (grownBy_drewN (a := w) (r := none) 1)
  change Hid (w.grownBy w.drew none) at HD
  generalize w.drew = w1 at HD ⊢
  have hsz := HD.out.size
  have HR := Lib.hid (row_new w1 #[Part.val (.num ⟨h, 0, none⟩ 2), Part.val (.num ⟨h, 1, none⟩ 2), Part.val (.num ⟨h, 2, none⟩ 4), Part.val (.num ⟨h, 3, none⟩ 4), Part.val (.num ⟨h, 8, none⟩ 1), Part.val (.num ⟨h, 4, none⟩ 1), Part.val (.num ⟨h, 5, none⟩ 2), Part.val (.num ⟨h, 9, none⟩ 2), Part.val (.num ⟨h, 10, none⟩ 2)] 77 9 [Part.val (.num ⟨h, 0, none⟩ 2), Part.val (.num ⟨h, 1, none⟩ 2), Part.val (.num ⟨h, 2, none⟩ 4), Part.val (.num ⟨h, 3, none⟩ 4), Part.val (.num ⟨h, 8, none⟩ 1), Part.val (.num ⟨h, 4, none⟩ 1), Part.val (.num ⟨h, 5, none⟩ 2), Part.val (.num ⟨h, 9, none⟩ 2), Part.val (.num ⟨h, 10, none⟩ 2)] (by simp [maxLen]) rfl rfl)
  have HA := Lib.hid (World.grownBy_alloc w1 (.cells #[Part.val (.num ⟨h, 0, none⟩ 2), Part.val (.num ⟨h, 1, none⟩ 2), Part.val (.num ⟨h, 2, none⟩ 4), Part.val (.num ⟨h, 3, none⟩ 4), Part.val (.num ⟨h, 8, none⟩ 1), Part.val (.num ⟨h, 4, none⟩ 1), Part.val (.num ⟨h, 5, none⟩ 2), Part.val (.num ⟨h, 9, none⟩ 2), Part.val (.num ⟨h, 10, none⟩ 2)] 77) none)
  repeat still_step
  try refine wpStill_nil ?_
  go_wp2_with fail
  go_ret
  obtain ⟨b, c, he, hb, hc⟩ := row_parts (tcpParts h) HR.out (by simp [tcpParts])
  exact ⟨b, c, by rw [← he]; rfl, Nat.le_trans hsz hb, grownBy_trans HD.out HA.out, hc⟩

end Go.Proofs.Ythfhffcimjolgaa
