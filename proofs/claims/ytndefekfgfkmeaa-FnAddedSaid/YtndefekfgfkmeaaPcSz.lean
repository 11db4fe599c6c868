/- The size of a row of pieces, with a bound; what is added is short. -/
import Derived.Test.YtndefekfgfkmeaaPcAi
namespace Go.Proofs.Ytndefekfgfkmeaa
open Go.RowKit

def SzPost2 (w : World) (l : List Pk) (e : Ending) (w' : World) : Prop :=
  ∃ q : Int, e = .returned (.int .i64 q) ∧ w.grownBy w' none ∧ q ≤ 1048576 ∧ (0 ≤ q → l.length ≤ 1048576 ∧ ∀ x ∈ l, x.2.length ≤ 1048576)
theorem addR_len (l : List Pk) (x : Pk) : (addR l x).length ≤ 61 := by
  unfold addR
  split
  · rename_i h
    simp only [addOk, Bool.and_eq_true] at h
    have h1 := (pcs_of h.1.1).1
    have h2 := with_len l x
    omega
  · simp

set_option maxRecDepth 100000 in
set_option maxHeartbeats 1000000 in
theorem sz_bound (a : Option Addr) (c : Nat) (l : List Pk) (w : World) (h : PkAt w a l) (hl : l.length ≤ 9223372036854775807) (hm : ∀ x ∈ l, x.2.length ≤ 9223372036854775807) : Calls Try.prog 32 #[.slice a l.length c, .int .i64 1048576] w (SzPost2 w l) := by
  have H := Lib.hid h
  have HM := Lib.hid hm
  clear h hm
  by_cases hn : (l.length : Int) ≤ 1048576
  · go_enter Try.func32, Try.ntmps32
    go_wp2_with fail
    go_loopw [1, 5] (fun k i wr => SzRel w l k i wr) (fun _ i _ => l.length - (intOf i).toNat)
    case atStart => exact ⟨0, 1048576 - l.length, Nat.zero_le _, rfl, rfl, by omega, by omega, World.grownBy.refl _ _, by simp⟩
    case round =>
      obtain ⟨j, q, hj, rfl, rfl, hq0, hq1, hg, hall⟩ := hrel
      have HS := Lib.hid (And.intro hg hall)
      clear hg hall
      by_cases hlt : j < l.length
      · rcases (H.out.kept HS.out.1) with h0 | ⟨b, off, rfl, hb, hc⟩
        · rw [h0] at hlt
          simp at hlt
        · obtain ⟨c0, c1⟩ := hc j hlt
          clear hc
          have hmx := HM.out l[j] (List.getElem_mem hlt)
          have HX := Lib.hid (all_next (P := fun x : Pk => x.2.length ≤ 1048576) l j hlt HS.out.2)
          generalize l[j] = x at *
          obtain ⟨t, m⟩ := x
          simp only at hmx
          have hlt' : (j : Int) < (l.length : Int) := by omega
          by_cases hm : (m.length : Int) ≤ q
          · go_wp2_with fail
            refine (sz_packet t m q _ hq0 hq1 (by omega)).mono ?_
            rintro e w8 ⟨rfl, hg⟩
            rw [if_pos hm]
            have H8 := Lib.hid (grownBy_trans HS.out.1 hg)
            clear hg c0 c1
            have hq2 : 0 ≤ q - (m.length : Int) := by omega
            have hq3 : q - (m.length : Int) ≤ 1048576 := by omega
            go_wp2_with fail
            go_roundw
            case rel => exact ⟨j + 1, _, hlt, by go_num, rfl, hq2, hq3, H8.out, HX.out (by show m.length ≤ _; omega)⟩
            case measure => simp [intOf]; omega
          · go_wp2_with fail
            refine (sz_packet t m q _ hq0 hq1 (by omega)).mono ?_
            rintro e w8 ⟨rfl, hg⟩
            rw [if_neg (by omega : ¬ (m.length : Int) ≤ q)]
            have H8 := Lib.hid (grownBy_trans HS.out.1 hg)
            clear hg c0 c1
            go_wp2_with fail
            go_ret
            exact ⟨_, rfl, H8.out, by omega, by omega⟩
      · obtain rfl : j = l.length := by omega
        go_wp2_with fail
        go_ret
        exact ⟨_, rfl, HS.out.1, hq1, fun _ => ⟨by omega, fun x hx => HS.out.2 x (by rw [List.take_length]; exact hx)⟩⟩
  · go_enter Try.func32, Try.ntmps32
    go_wp2_with fail
    go_ret
    exact ⟨_, rfl, World.grownBy.refl _ _, by omega, by omega⟩

end Go.Proofs.Ytndefekfgfkmeaa
