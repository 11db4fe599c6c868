/- The reader's numbers near a range, over every range that begins at a small number. -/
import Derived.Test.YthfhffcimjolgaaRd
import Derived.Lib.Hide
namespace Go.Proofs.Ythfhffcimjolgaa
open Go.RowKit

theorem wf_of {v : Int} (h0 : -9223372036854775808 ≤ v) (h1 : v ≤ 9223372036854775807) : (Lit.int .i64 v).wf = true := by
  simp [Lit.wf, IntKind.min, IntKind.max, IntKind.signed, IntKind.bits]; omega
theorem of_wf {v : Int} (h : (Lit.int .i64 v).wf = true) : -9223372036854775808 ≤ v ∧ v ≤ 9223372036854775807 := by
  simpa [Lit.wf, IntKind.min, IntKind.max, IntKind.signed, IntKind.bits] using h
theorem wrap_bd (v : Int) : -9223372036854775808 ≤ wrap64 v ∧ wrap64 v ≤ 9223372036854775807 := by
  unfold wrap64
  omega

set_option maxRecDepth 100000 in
set_option maxHeartbeats 1000000 in
theorem near_w (r : Nat) (a b : Int) (w : World) (h : RdOk w r) (ha : 0 ≤ a ∧ a ≤ 1000000000) (hb : (Lit.int .i64 b).wf = true) :
    Calls Try.prog 50 #[.pointer (some ⟨r, 0, none⟩), .int .i64 a, .int .i64 b] w (NumPost w r) := by
  obtain ⟨b0, b1⟩ := of_wf hb
  have H := Lib.hid h
  have HB := Lib.hid hb
  clear h hb
  go_enter Try.func50, Try.ntmps50
  go_wp2_with fail
  refine (below_any _ _ _ H.out (by omega)).mono ?_
  rintro e w1 ⟨v, v0, v1, rfl, hg, hr⟩
  have HG := Lib.hid (And.intro hg hr)
  clear hg hr v1
  by_cases h0 : v = 0
  · subst h0
    go_wp2_with fail
    go_ret
    exact ⟨a, wf_of (by omega) (by omega), rfl, HG.out.1, HG.out.2⟩
  · by_cases h1 : v = 1
    · subst h1
      go_wp2_with fail
      go_ret
      exact ⟨b, HB.out, rfl, HG.out.1, HG.out.2⟩
    · by_cases hlt : b < a
      · go_wp2_with fail
        go_ret
        exact ⟨a, wf_of (by omega) (by omega), rfl, HG.out.1, HG.out.2⟩
      · by_cases hbig : b - a + 1 = 9223372036854775808
        · obtain rfl : a = 0 := by omega
          obtain rfl : b = 9223372036854775807 := by omega
          clear hbig
          have hz : IntKind.u64.wrap (wrap64 9223372036854775808) = 9223372036854775808 := by decide +kernel
          go_wp2_with fail
          refine (word_any _ _ HG.out.2).mono ?_
          rintro e w2 ⟨u, hu, rfl, hg, hr⟩
          have HG2 := Lib.hid (And.intro hg hr)
          clear hg hr
          have hu' : 0 ≤ u ∧ u ≤ 18446744073709551615 := by simpa [Lit.wf, IntKind.min, IntKind.max, IntKind.signed, IntKind.bits] using hu
          clear hu
          go_wp2_with fail
          go_ret
          exact ⟨u / 2 % 9223372036854775808, wf_of (by omega) (by omega), rfl, grownBy_trans HG.out.1 HG2.out.1, HG2.out.2⟩
        · go_wp2_with fail
          refine (word_any _ _ HG.out.2).mono ?_
          rintro e w2 ⟨u, hu, rfl, hg, hr⟩
          have HG2 := Lib.hid (And.intro hg hr)
          clear hg hr
          have hu' : 0 ≤ u ∧ u ≤ 18446744073709551615 := by simpa [Lit.wf, IntKind.min, IntKind.max, IntKind.signed, IntKind.bits] using hu
          clear hu
          go_wp2_with fail
          go_ret
          exact ⟨_, wf_of (wrap_bd _).1 (wrap_bd _).2, rfl, grownBy_trans HG.out.1 HG2.out.1, HG2.out.2⟩

theorem four_any (w : World) (x0 x1 x2 x3 : Int) (T : TypeId) (h0 : (Lit.int .i64 x0).wf = true) (h1 : (Lit.int .i64 x1).wf = true) (h2 : (Lit.int .i64 x2).wf = true) (h3 : (Lit.int .i64 x3).wf = true) (k : Nat) (hk : k < 4) :
    ∃ z : Int, (Lit.int .i64 z).wf = true ∧ (w.alloc (.cells #[.int .i64 x0, .int .i64 x1, .int .i64 x2, .int .i64 x3] T)).cell? ⟨w.heap.size, k, none⟩ = some (.int .i64 z) := by
  have : k = 0 ∨ k = 1 ∨ k = 2 ∨ k = 3 := by omega
  rcases this with rfl | rfl | rfl | rfl
  · exact ⟨x0, h0, by go_simp⟩
  · exact ⟨x1, h1, by go_simp⟩
  · exact ⟨x2, h2, by go_simp⟩
  · exact ⟨x3, h3, by go_simp⟩

set_option maxRecDepth 100000 in
set_option maxHeartbeats 1000000 in
theorem off_w (r : Nat) (a b : Int) (w : World) (h : RdOk w r) (ha : 0 ≤ a ∧ a ≤ 1000000000) (hb : (Lit.int .i64 b).wf = true) :
    Calls Try.prog 31 #[.pointer (some ⟨r, 0, none⟩), .int .i64 a, .int .i64 b] w (NumPost w r) := by
  have H := Lib.hid h
  have HB := Lib.hid hb
  clear h hb
  have hwa : wrap64 (a - 1) = a - 1 := by unfold wrap64; omega
  obtain ⟨bb, hbb⟩ : ∃ bb, wrap64 (b + 1) = bb := ⟨_, rfl⟩
  have HBB := Lib.hid (show (Lit.int .i64 bb).wf = true by rw [← hbb]; exact wf_of (wrap_bd _).1 (wrap_bd _).2)
  go_enter Try.func31, Try.ntmps31
  go_wp2_with fail
  refine (once_any _ _ _ H.out (by omega) (by omega)).mono ?_
  rintro e w1 ⟨v, rfl, hg, hr⟩
  have hlt := hr.lt
  have HG := Lib.hid (And.intro hg hr)
  clear hg hr
  cases v
  · go_wp2_with fail
    refine (near_w _ _ _ _ HG.out.2 ha HB.out).mono ?_
    rintro e w2 ⟨v, hv, rfl, hg, hr⟩
    have HG2 := Lib.hid (And.intro hg (And.intro hr hv))
    clear hg hr hv
    go_wp2_with fail
    go_ret
    exact ⟨v, HG2.out.2.2, rfl, grownBy_trans HG.out.1 HG2.out.1, HG2.out.2.1⟩
  · go_wp2_with fail
    refine (below_any _ _ _ (HG.out.2.alloc _) (by omega)).mono ?_
    rintro e w2 ⟨v, v0, v1, rfl, hg, hr⟩
    obtain ⟨k, rfl⟩ := Int.eq_ofNat_of_zero_le v0
    have hk : k < 4 := by rw [if_neg (by omega)] at v1; omega
    obtain ⟨z, hz, hcz⟩ := four_any w1 (a - 1) bb (-9223372036854775808) 9223372036854775807 2 (wf_of (by omega) (by omega)) HBB.out (by decide) (by decide) k hk
    have hc := hg.cell hcz (by simp; omega)
    have HG2 := Lib.hid (And.intro (grownBy_trans (World.grownBy_alloc _ _ _) hg) (And.intro hr hz))
    clear hg hr hcz v0 v1 hz
    go_wp2_with fail
    go_ret
    exact ⟨z, HG2.out.2.2, rfl, grownBy_trans HG.out.1 HG2.out.1, HG2.out.2.1⟩

end Go.Proofs.Ythfhffcimjolgaa
