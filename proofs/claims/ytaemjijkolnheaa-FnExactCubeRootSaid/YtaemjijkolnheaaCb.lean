/- Cubes: roots, and windows by the cube, as numbers. -/
import Derived.Test.YtaemjijkolnheaaRd
import Derived.Lib.Hide
namespace Go.Proofs.Ytaemjijkolnheaa
open Go.RowKit

def cb (x : Int) : Int := x * x * x
def CR (n r : Int) : Prop := 0 ≤ r ∧ cb r ≤ n ∧ n < cb (r + 1)
theorem cb_le {a b : Int} (h0 : 0 ≤ a) (h : a ≤ b) : cb a ≤ cb b := by
  have h1 : a * a ≤ b * b := Int.mul_le_mul h h h0 (by omega)
  exact Int.mul_le_mul h1 h h0 (Int.mul_nonneg (by omega) (by omega))
theorem cb_nonneg {a : Int} (h0 : 0 ≤ a) : 0 ≤ cb a := Int.mul_nonneg (Int.mul_nonneg h0 h0) h0
theorem cb_lt_of {a b : Int} (h0 : 0 ≤ b) (h : cb a < cb b) : a < b := by
  by_cases q : a < b
  · exact q
  · have := cb_le h0 (show b ≤ a by omega)
    omega
theorem CR.uniq {n r s : Int} (h : CR n r) (k : CR n s) : r = s := by
  have h1 := cb_lt_of (a := r) (b := s + 1) (by have := k.1; omega) (by have := h.2.1; have := k.2.2; omega)
  have h2 := cb_lt_of (a := s) (b := r + 1) (by have := h.1; omega) (by have := k.2.1; have := h.2.2; omega)
  omega
theorem CR.top {n r x : Int} (h : CR n r) (hx : 0 ≤ x) (hn : n < cb (x + 1)) : r ≤ x := by
  have := cb_lt_of (a := r) (b := x + 1) (by omega) (by have := h.2.1; omega)
  omega
theorem cb_bd {x b : Int} (h0 : 0 ≤ x) (h1 : x ≤ b) : 0 ≤ x * x ∧ x * x ≤ b * b ∧ 0 ≤ x * x * x ∧ x * x * x ≤ b * b * b :=
  ⟨Int.mul_nonneg h0 h0, Int.mul_le_mul h1 h1 h0 (by omega), cb_nonneg h0, cb_le h0 h1⟩
theorem cb_neg (x : Int) : cb (-x) = - cb x := by unfold cb; rw [Int.neg_mul_neg, Int.mul_neg]
theorem cb_bd2 {x : Int} (h0 : -20000 ≤ x) (h1 : x ≤ 20000) : -400000000 ≤ x * x ∧ x * x ≤ 400000000 ∧ -8000000000000 ≤ cb x ∧ cb x ≤ 8000000000000 := by
  by_cases q : 0 ≤ x
  · have := cb_bd q h1
    unfold cb
    omega
  · have h2 := cb_bd (show 0 ≤ -x by omega) (show -x ≤ 20000 by omega)
    have h3 := cb_neg x
    rw [Int.neg_mul_neg] at h2
    unfold cb at h3 ⊢
    rw [Int.neg_mul_neg] at h3
    omega
theorem cb_mono {a b : Int} (h : a ≤ b) : cb a ≤ cb b := by
  by_cases q : 0 ≤ a
  · exact cb_le q h
  · by_cases q2 : 0 ≤ b
    · have h1 := cb_nonneg q2
      have h2 := cb_nonneg (show 0 ≤ -a by omega)
      rw [cb_neg] at h2
      omega
    · have h1 := cb_le (show 0 ≤ -b by omega) (show -b ≤ -a by omega)
      rw [cb_neg, cb_neg] at h1
      omega

/-- What the root of n is: one below 0 beyond the limits. -/
def RootIs (n r : Int) : Prop := (0 ≤ n ∧ n ≤ 1000000000000000000 ∧ CR n r) ∨ (¬ (0 ≤ n ∧ n ≤ 1000000000000000000) ∧ r = -1)
theorem RootIs.uniq {n r s : Int} (h : RootIs n r) (k : RootIs n s) : r = s := by
  rcases h with ⟨h0, h1, h2⟩ | ⟨h0, h1⟩ <;> rcases k with ⟨k0, k1, k2⟩ | ⟨k0, k1⟩
  · exact h2.uniq k2
  · exact absurd ⟨h0, h1⟩ k0
  · exact absurd ⟨k0, k1⟩ h0
  · rw [h1, k1]
def KIs (w k : Int) : Prop := (0 ≤ w ∧ w ≤ 1000000000 ∧ CR (w * 3 / 4) k) ∨ (¬ (0 ≤ w ∧ w ≤ 1000000000) ∧ k = -1)
theorem KIs.uniq {n r s : Int} (h : KIs n r) (k : KIs n s) : r = s := by
  rcases h with ⟨h0, h1, h2⟩ | ⟨h0, h1⟩ <;> rcases k with ⟨k0, k1, k2⟩ | ⟨k0, k1⟩
  · exact h2.uniq k2
  · exact absurd ⟨h0, h1⟩ k0
  · exact absurd ⟨k0, k1⟩ h0
  · rw [h1, k1]
theorem KIs.bd {w k : Int} (h : KIs w k) : -1 ≤ k ∧ k ≤ 1000 := by
  rcases h with ⟨h0, h1, h2⟩ | ⟨_, rfl⟩
  · have := h2.top (x := 1000) (by omega) (by show w * 3 / 4 < 1001 * 1001 * 1001; omega)
    exact ⟨by have := h2.1; omega, this⟩
  · omega
/-- A window by the cube, whose root is k. -/
def cwin (w t k : Int) : Int := if w + 4 * cb (t - k) / 10 < 0 then 0 else w + 4 * cb (t - k) / 10
def WIs (w t v : Int) : Prop := (0 ≤ w ∧ w ≤ 1000000000 ∧ 0 ≤ t ∧ t ≤ 10000 ∧ ∃ k, CR (w * 3 / 4) k ∧ v = cwin w t k) ∨ (¬ (0 ≤ w ∧ w ≤ 1000000000 ∧ 0 ≤ t ∧ t ≤ 10000) ∧ v = -1)
theorem WIs.uniq {w t r s : Int} (h : WIs w t r) (k : WIs w t s) : r = s := by
  rcases h with ⟨h0, h1, h2, h3, x, hx, rfl⟩ | ⟨h0, h1⟩ <;> rcases k with ⟨k0, k1, k2, k3, y, hy, rfl⟩ | ⟨k0, k1⟩
  · rw [hx.uniq hy]
  · exact absurd ⟨h0, h1, h2, h3⟩ k0
  · exact absurd ⟨k0, k1, k2, k3⟩ h0
  · rw [h1, k1]

set_option maxRecDepth 100000 in
set_option maxHeartbeats 1000000 in
theorem cb_cube (x : Int) (w : World) (h : -20000 ≤ x ∧ x ≤ 1000001) : Calls Try.prog 23 #[.int .i64 x] w fun e w' => e = .returned (.int .i64 (cb x)) ∧ w' = w := by
  have hb : -400000000 ≤ x * x ∧ x * x ≤ 2000000000000 ∧ -8000000000000 ≤ cb x ∧ cb x ≤ 2000000000000000000 := by
    by_cases q : 0 ≤ x
    · have := cb_bd q h.2
      unfold cb
      omega
    · have := cb_bd2 h.1 (by omega)
      omega
  have h1 : IntKind.i64.wrap (x * x) = x * x := IntWalk.i64_in _ (by omega)
  have h2 : IntKind.i64.wrap (x * x * x) = cb x := IntWalk.i64_in _ (by unfold cb at hb; omega)
  clear hb
  go_enter Try.func23, Try.ntmps23
  go_wp2
  go_ret
  exact ⟨rfl, rfl⟩

set_option maxRecDepth 100000 in
set_option maxHeartbeats 2000000 in
theorem cb_l11 (n : Int) (w : World) (h : 0 ≤ n ∧ n ≤ 1000000000000000000) : Calls Try.prog 25 #[.int .i64 n] w fun e w' => (∃ r, e = .returned (.int .i64 r) ∧ CR n r) ∧ w' = w := by
  go_enter Try.func25, Try.ntmps25
  go_wp2_with fail
  go_loopw [3, 4] (fun i j wr => ∃ a b : Int, i = .int .i64 a ∧ j = .int .i64 b ∧ 0 ≤ a ∧ a < b ∧ b ≤ 2000001 ∧ cb a ≤ n ∧ n < cb b ∧ wr = w) (fun i j _ => (intOf j - intOf i).toNat)
  case atStart => exact ⟨0, 2000001, rfl, rfl, by omega, by omega, by omega, by show (0 : Int) * 0 * 0 ≤ n; omega, by show n < 2000001 * 2000001 * 2000001; omega, rfl⟩
  case round =>
    obtain ⟨a, b, rfl, rfl, ha, hab, hb, hc, hd, rfl⟩ := hrel
    have s1 : IntKind.i64.wrap (a + 1) = a + 1 := IntWalk.i64_in _ (by omega)
    by_cases q : a + 1 < b
    · have s2 : IntKind.i64.wrap (a + b) = a + b := IntWalk.i64_in _ (by omega)
      obtain ⟨m, hm⟩ : ∃ m, m = (a + b) / 2 := ⟨_, rfl⟩
      have s3 : IntKind.i64.wrap ((a + b).tdiv 2) = m := by rw [Int.tdiv_eq_ediv_of_nonneg (by omega), hm]; exact IntWalk.i64_in _ (by omega)
      have hm0 : a < m ∧ m < b := by omega
      have hmb := cb_bd (show 0 ≤ m by omega) (show m ≤ 2000000 by omega)
      have s4 : IntKind.i64.wrap (m * m) = m * m := IntWalk.i64_in _ (by omega)
      have s5 : IntKind.i64.wrap (m * m * m) = m * m * m := IntWalk.i64_in _ (by omega)
      have HR := Lib.hid (And.intro ha (And.intro hab (And.intro hb (And.intro hc (And.intro hd hm0)))))
      clear hm hmb hc hd hm0 hab
      by_cases q2 : m * m * m ≤ n
      · go_wp2_with fail
        go_roundw
        case rel => exact ⟨m, b, by go_num, by go_num, by have := HR.out; omega, by have := HR.out; omega, by omega, q2, HR.out.2.2.2.2.1, trivial⟩
        case measure => have := HR.out; simp [intOf]; omega
      · go_wp2_with fail
        go_roundw
        case rel => exact ⟨a, m, by go_num, by go_num, by omega, by have := HR.out; omega, by have := HR.out; omega, HR.out.2.2.2.1, by show n < m * m * m; omega, trivial⟩
        case measure => have := HR.out; simp [intOf]; omega
    · obtain rfl : b = a + 1 := by omega
      have HR := Lib.hid (And.intro ha (And.intro hc hd))
      clear hc hd hab
      go_wp2_with fail
      go_ret
      exact ⟨⟨a, rfl, HR.out⟩, rfl⟩

end Go.Proofs.Ytaemjijkolnheaa
