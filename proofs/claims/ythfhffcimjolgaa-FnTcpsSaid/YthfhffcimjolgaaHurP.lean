/- The reader's hurting of a text, told exactly. -/
import Derived.Test.YthfhffcimjolgaaHurtI
import Derived.Deep.RegionHeld
namespace Go.Proofs.Ythfhffcimjolgaa
open Go.RowKit

theorem four_texts (w : World) (T : TypeId) (k : Nat) (hk : k < 4) :
    ∃ z : UInt8, (w.alloc (.cells #[.string ⟨#[0]⟩, .string ⟨#[97]⟩, .string ⟨#[10]⟩, .string ⟨#[255]⟩] T)).cell? ⟨w.heap.size, k, none⟩ = some (.string ⟨[z].toArray⟩) := by
  have : k = 0 ∨ k = 1 ∨ k = 2 ∨ k = 3 := by omega
  rcases this with rfl | rfl | rfl | rfl
  · exact ⟨0, by go_simp⟩
  · exact ⟨97, by go_simp⟩
  · exact ⟨10, by go_simp⟩
  · exact ⟨255, by go_simp⟩

/-- A text that was cut, one byte of it turned, or one byte behind it. -/
def HurtOf (t u : List UInt8) : Prop := (∃ k, u = t.take k) ∨ (∃ k y, k < t.length ∧ u = t.set k y) ∨ ∃ z, u = t ++ [z]
def HurtPost (w : World) (r : Nat) (t : List UInt8) (e : Ending) (w' : World) : Prop :=
  ∃ u, HurtOf t u ∧ e = .returned (.string ⟨u.toArray⟩) ∧ w.grownBy w' (some r) ∧ RdOk w' r

set_option maxRecDepth 100000 in
set_option maxHeartbeats 1000000 in
theorem hurt_of (r : Nat) (t : List UInt8) (w : World) (h : RdOk w r) (ht : t.length ≤ 60000) : Calls Try.prog 24 #[.pointer (some ⟨r, 0, none⟩), .string ⟨t.toArray⟩] w (HurtPost w r t) := by
  have H := Lib.hid h
  clear h
  go_enter Try.func24, Try.ntmps24
  go_wp2_with fail
  refine (below_any _ _ _ H.out (by omega)).mono ?_
  rintro e w1 ⟨v, v0, v1, rfl, hg, hr⟩
  have HG := Lib.hid (And.intro hg hr)
  clear hg hr v1
  by_cases h1 : v = 1
  · subst h1
    go_wp2_with fail
    refine (below_any _ _ _ HG.out.2 (by omega)).mono ?_
    rintro e w2 ⟨x, x0, x1, rfl, hg, hr⟩
    obtain ⟨k, rfl⟩ := Int.eq_ofNat_of_zero_le x0
    have hk : k ≤ t.length := by split at x1 <;> omega
    have HG2 := Lib.hid (And.intro (grownBy_trans HG.out.1 hg) hr)
    clear hg hr x0 x1
    go_wp2_with fail
    go_ret
    refine ⟨t.take k, .inl ⟨k, rfl⟩, ret_ba (ba_of ?_), HG2.out.1, HG2.out.2⟩
    rw [Lib.extract_data]
    simp
  · by_cases h2 : v = 2
    · subst h2
      clear h1
      by_cases h0 : 0 < t.length
      · go_wp2_with fail
        refine (below_any _ _ _ HG.out.2 (by omega)).mono ?_
        rintro e w2 ⟨x, x0, x1, rfl, hg, hr⟩
        obtain ⟨k, rfl⟩ := Int.eq_ofNat_of_zero_le x0
        have hk : k < t.length := by split at x1 <;> omega
        have HG2 := Lib.hid (And.intro (grownBy_trans HG.out.1 hg) hr)
        clear hg hr x0 x1
        have hj0 : 0 ≤ (k : Int) := by omega
        have hj1 : (k : Int) ≤ (t.length : Int) := by omega
        have hj2 : IntKind.i64.wrap ((k : Int) + 1) = (k : Int) + 1 := IntWalk.i64_in _ (by omega)
        have hj3 : (k : Int) + 1 ≤ (t.length : Int) := by omega
        have hj4 : 0 ≤ (k : Int) + 1 := by omega
        have hj5 : ((k : Int) + 1).toNat = k + 1 := by omega
        have hm1 : min k t.length = k := by omega
        have hk1 : ¬ 9223372036854775807 < k + 1 := by omega
        have hk2 : ¬ 9223372036854775807 < k + 1 + (t.length - (k + 1)) := by omega
        go_wp2_with fail
        go_region_held (fun w' => w.grownBy w' (some r) ∧ RdOk w' r) ((refine ⟨by first | assumption | exact grownBy_trans (by assumption) (World.grownBy_alloc _ _ _) | exact grownBy_trans HG2.out.1 grownBy_drew, by first | assumption | exact RdOk.alloc (by assumption) _ | exact RdOk.drew HG2.out.2⟩))
          (first | (go_at_call 39; refine (below_any _ _ _ HG2.out.2.drew (by omega)).mono ?_; rintro e w3 ⟨y, y0, y1, rfl, hg, hr⟩; obtain ⟨b, rfl⟩ := Int.eq_ofNat_of_zero_le y0; have hb : (b : Int) ≤ 255 := (by rw [if_neg (by omega)] at y1; omega); have q0 := grownBy_trans (grownBy_trans HG2.out.1 grownBy_drew) hg; have hb0 : IntKind.u8.wrap (b : Int) = (b : Int) := (by rw [IntKind.wrap]; simp [IntKind.bits, IntKind.signed]; omega); have hcv := conv_new w3 #[.int .u8 (b : Int)] 5 1 1 [UInt8.ofNat b] rfl (fun j hj => (by have hj' : j = 0 := (by simp at hj; omega); subst hj'; simp; omega)); clear y0 y1 hg))
        go_wp2_with fail
        go_ret
        refine ⟨t.take k ++ [UInt8.ofNat b] ++ t.drop (k + 1), .inr (.inl ⟨k, UInt8.ofNat b, hk, by rw [List.set_eq_take_append_cons_drop, if_pos hk]; simp⟩), ret_ba (ba_of ?_), grownBy_trans (by assumption) (World.grownBy_alloc _ _ _), RdOk.alloc (by assumption) _⟩
        simp
        exact List.take_of_length_le (by simp)
      · have : t = [] := List.length_eq_zero_iff.mp (by omega)
        subst this
        clear h0
        go_wp2_with fail
        go_ret
        exact ⟨[], .inl ⟨0, rfl⟩, rfl, HG.out.1, HG.out.2⟩
    · by_cases h3 : v = 3
      · subst h3
        clear h1 h2
        go_wp2_with fail
        refine (below_any _ _ _ (HG.out.2.alloc _) (by omega)).mono ?_
        rintro e w2 ⟨x, x0, x1, rfl, hg, hr⟩
        obtain ⟨k, rfl⟩ := Int.eq_ofNat_of_zero_le x0
        have hk : k < 4 := by rw [if_neg (by omega)] at x1; omega
        obtain ⟨z, hz⟩ := four_texts w1 9 k hk
        have hc := hg.cell hz (by have := HG.out.2.lt; simp; omega)
        have HG2 := Lib.hid (And.intro (grownBy_trans HG.out.1 (grownBy_trans (World.grownBy_alloc _ _ _) hg)) hr)
        clear hg hr x0 x1 hz
        have hk1 : ¬ 9223372036854775807 < t.length + 1 := by omega
        go_wp2_with fail
        go_ret
        exact ⟨t ++ [z], .inr (.inr ⟨z, rfl⟩), ret_ba (by rw [ba_append]), HG2.out.1, HG2.out.2⟩
      · go_wp2_with fail
        go_ret
        exact ⟨t, .inl ⟨t.length, by simp⟩, rfl, HG.out.1, HG.out.2⟩

end Go.Proofs.Ythfhffcimjolgaa
