/- The program's parts of a packet. -/
import Derived.Test.YtihaamgimakcoaaRow
import Derived.Test.YtihaamgimakcoaaIpOk
namespace Go.Proofs.Ytihaamgimakcoaa
open Go.RowKit

def ipParts (p z s : Nat) : List Part :=
  [.fix 17664 2, .num ⟨z, 0, none⟩ 2, .num ⟨p, 4, none⟩ 2, .fix 16384 2, .num ⟨p, 2, none⟩ 1, .num ⟨p, 3, none⟩ 1, .num ⟨s, 0, none⟩ 2, .num ⟨p, 0, none⟩ 4, .num ⟨p, 1, none⟩ 4]

set_option maxRecDepth 100000 in
set_option maxHeartbeats 400000 in
theorem ip_parts (p z s : Nat) (w : World) : Calls Try.prog 66 #[.pointer (some ⟨p, 0, none⟩), .pointer (some ⟨z, 0, none⟩), .pointer (some ⟨s, 0, none⟩)] w (PartsPost w (ipParts p z s)) := by
  go_enter Try.func66, Try.ntmps66
  obtain ⟨i0, hi, hz0, hz1, hz2⟩ := info_of infoPart
  go_wp2_with fail
  refine wp_region_still_tail 35 (by kernel_rfl) (by kernel_rfl) ?_
  change wpStill _ _ w.drew (fun a' => wpList _ _ _ _ a' w.drew) _ _
  simp only [List.take_succ_cons, List.take_zero, List.drop_succ_cons, List.drop_zero]
  have HD := Lib.hid (grownBy_drewN (a := w) (r := none) 1)
  change Hid (w.grownBy w.drew none) at HD
  generalize w.drew = w1 at HD ⊢
  have hsz := HD.out.size
  have HR := Lib.hid (row_new w1 #[Part.val (.fix 17664 2), Part.val (.num ⟨z, 0, none⟩ 2), Part.val (.num ⟨p, 4, none⟩ 2), Part.val (.fix 16384 2), Part.val (.num ⟨p, 2, none⟩ 1), Part.val (.num ⟨p, 3, none⟩ 1), Part.val (.num ⟨s, 0, none⟩ 2), Part.val (.num ⟨p, 0, none⟩ 4), Part.val (.num ⟨p, 1, none⟩ 4)] 125 9 [Part.val (.fix 17664 2), Part.val (.num ⟨z, 0, none⟩ 2), Part.val (.num ⟨p, 4, none⟩ 2), Part.val (.fix 16384 2), Part.val (.num ⟨p, 2, none⟩ 1), Part.val (.num ⟨p, 3, none⟩ 1), Part.val (.num ⟨s, 0, none⟩ 2), Part.val (.num ⟨p, 0, none⟩ 4), Part.val (.num ⟨p, 1, none⟩ 4)] (by simp [maxLen]) rfl rfl)
  have HA := Lib.hid (World.grownBy_alloc w1 (.cells #[Part.val (.fix 17664 2), Part.val (.num ⟨z, 0, none⟩ 2), Part.val (.num ⟨p, 4, none⟩ 2), Part.val (.fix 16384 2), Part.val (.num ⟨p, 2, none⟩ 1), Part.val (.num ⟨p, 3, none⟩ 1), Part.val (.num ⟨s, 0, none⟩ 2), Part.val (.num ⟨p, 0, none⟩ 4), Part.val (.num ⟨p, 1, none⟩ 4)] 125) none)
  repeat still_step
  try refine wpStill_nil ?_
  go_wp2_with fail
  go_ret
  obtain ⟨b, c, he, hb, hc⟩ := row_parts (ipParts p z s) HR.out (by simp [ipParts])
  exact ⟨b, c, by rw [← he]; rfl, Nat.le_trans hsz hb, grownBy_trans HD.out HA.out, hc⟩

end Go.Proofs.Ytihaamgimakcoaa
