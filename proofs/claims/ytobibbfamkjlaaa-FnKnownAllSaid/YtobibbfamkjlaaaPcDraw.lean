/- The drawings of the laws on pieces. -/
import Derived.Test.YtobibbfamkjlaaaPcDr
namespace Go.Proofs.Ytobibbfamkjlaaa
open Go.RowKit

theorem pksV_set1 : ∀ (l : List Pk) (k : Nat) (h : k < l.length) (p : Int), pksV (l.set k (p, (l[k]).2)) = (pksV l).set (k * 2) (.int .i64 p)
  | x :: l, 0, _, p => by simp [pksV, pkV]
  | x :: l, k + 1, h, p => by
    have ih := pksV_set1 l k (by simpa using h) p
    have e : ∀ (y : Pk) (m : List Pk), pksV (y :: m) = .int .i64 y.1 :: .string ⟨y.2.toArray⟩ :: pksV m := fun _ _ => rfl
    rw [List.set_cons_succ, e, show (k + 1) * 2 = k * 2 + 1 + 1 by omega, e, List.set_cons_succ, List.set_cons_succ]
    simp only [List.getElem_cons_succ]
    rw [ih]
def DOkPost (w : World) (e : Ending) (w' : World) : Prop :=
  ∃ (l : List Pk) (v : Value), l.length ≤ 4 ∧ e = .returned v ∧ w.grownBy w' none ∧ w'.ownsRow w.heap.size 38 2 v l.length (pksV l)
theorem own_ne {w : World} {B r : Nat} {e : TypeId} {v : Value} {n s : Nat} {xs : List Value} (h : w.ownsRow B e s v n xs) (hr : r < B) : v.ownBlock = none ∨ v.ownBlock ≠ some r := by
  by_cases hn : v.ownBlock = none
  · exact .inl hn
  · exact .inr fun e => by have := (h.lt _ e).1; omega

set_option maxRecDepth 100000 in
set_option maxHeartbeats 4000000 in
theorem draw_ok (a : Option Addr) (n c : Nat) (w : World) (h : CodeIn w a n) : Calls Try.prog 33 #[.slice a n c] w (DOkPost w) := by
  have HA := Lib.hid h
  clear h
  go_enter Try.func33, Try.ntmps33
  go_wp2_with fail
  refine (open_any _ _ _ _ HA.out).mono ?_
  rintro e w1 ⟨rfl, hg, hr⟩
  have H1 := Lib.hid (And.intro hr hg)
  have HZ := Lib.hid hg.size
  clear hg hr
  go_wp2_with fail
  refine (pieces_draw _ _ H1.out.1).mono ?_
  rintro e w2 ⟨l, v, hl, rfl, hg, hr, hown⟩
  have hl4 := hl.1
  have hne := own_ne hown H1.out.1.lt
  have H2 := Lib.hid (And.intro hr (And.intro (grownBy_new H1.out.2 hg (Nat.le_refl _)) (And.intro (own_base hown HZ.out) hne)))
  clear hg hr hown hne hl
  go_wp2_with fail
  refine (once_any _ _ _ H2.out.1 (by omega) (by omega)).mono ?_
  rintro e w3 ⟨b, rfl, hg, hr⟩
  have H3 := Lib.hid (And.intro (grownBy_new H2.out.2.1 hg (Nat.le_refl _)) (And.intro hr (H2.out.2.2.1.kept hg H2.out.2.2.2)))
  clear hg hr
  obtain ⟨a3, c3, rfl⟩ := own_slice H3.out.2.2
  cases b
  · go_wp2_with fail
    go_ret
    exact ⟨l, _, hl4, rfl, H3.out.1, H3.out.2.2⟩
  · by_cases h0 : l.length = 0
    · have hb : ¬ (0 : Int) < (l.length : Int) := by omega
      have hb2 : decide ((0 : Int) < (l.length : Int)) = false := decide_eq_false hb
      have HL := Lib.hid h0
      clear h0
      go_wp2_with fail
      go_ret
      exact ⟨l, _, hl4, rfl, H3.out.1, H3.out.2.2⟩
    · have hb : (0 : Int) < (l.length : Int) := by omega
      rcases H3.out.2.2.2 with ⟨_, h1⟩ | ⟨g, cap', cur, hv, _⟩
      · exact absurd h1 h0
      · simp at hv
        obtain ⟨rfl, rfl⟩ := hv
        clear h0
        go_wp2_with fail
        refine (below_any _ _ _ H3.out.2.1 (by omega)).mono ?_
        rintro e w4 ⟨k, v0, v1, rfl, hg, hr⟩
        obtain ⟨k, rfl⟩ := Int.eq_ofNat_of_zero_le v0
        have hk : k < l.length := by split at v1 <;> omega
        have hgr : Value.ownBlock (.slice (some ⟨g, 0, none⟩) l.length c3) = none ∨ Value.ownBlock (.slice (some ⟨g, 0, none⟩) l.length c3) ≠ some w.heap.size := H2.out.2.2.2
        have H4 := Lib.hid (And.intro (grownBy_new H3.out.1 hg (Nat.le_refl _)) (And.intro hr (H3.out.2.2.kept hg hgr)))
        clear hg hr v0 v1
        go_wp2_with fail
        refine (off_any _ _ _ _ H4.out.2.1 (by omega) (by omega) (by omega)).mono ?_
        rintro e w5 ⟨p, hp, rfl, hg, hr⟩
        have hown := H4.out.2.2.kept hg hgr
        have hG5 := grownBy_new H4.out.1 hg (Nat.le_refl _)
        obtain ⟨y0, d0⟩ : ∃ y, w5.cell? ⟨g, k * 2, none⟩ = some y := by
          rw [hown.cellAt (k * 2) (by omega)]
          exact ⟨_, List.getElem?_eq_getElem (by rw [pksV_len]; omega)⟩
        have f0 := hown.frozenAt (k * 2)
        have hs1 := hown.stored (k * 2) (.int .i64 p)
        have hs2 := hs1.1
        rw [← pksV_set1 l k hk p] at hs2
        have HW := Lib.hid (And.intro (grow_own hG5 hs1.2 hown (Nat.le_refl _)) hs2)
        have hk1 : (k : Int) < (l.length : Int) := by omega
        have hk0 : (0 : Int) ≤ (k : Int) := by omega
        clear hg hr hown hG5 hs1 hs2 hgr
        go_wp2_with fail
        go_ret
        refine ⟨l.set k (p, (l[k]).2), _, by simpa using hl4, rfl, HW.out.1, ?_⟩
        rw [List.length_set]
        exact HW.out.2

set_option maxRecDepth 100000 in
theorem draw_prefix (a : Option Addr) (n c : Nat) (w : World) (h : CodeIn w a n) : Calls Try.prog 9 #[.slice a n c] w (DOkPost w) := by
  go_enter Try.func9, Try.ntmps9
  go_wp2_with fail
  refine (draw_ok _ _ _ _ h).mono ?_
  rintro e w1 ⟨l, v, hl, rfl, hg, ho⟩
  have H := Lib.hid (And.intro hg ho)
  clear hg ho
  go_wp2_with fail
  go_ret
  exact ⟨l, v, hl, rfl, H.out.1, H.out.2⟩

set_option maxRecDepth 100000 in
theorem draw_known (a : Option Addr) (n c : Nat) (w : World) (h : CodeIn w a n) : Calls Try.prog 10 #[.slice a n c] w (DOkPost w) := by
  go_enter Try.func10, Try.ntmps10
  go_wp2_with fail
  refine (draw_ok _ _ _ _ h).mono ?_
  rintro e w1 ⟨l, v, hl, rfl, hg, ho⟩
  have H := Lib.hid (And.intro hg ho)
  clear hg ho
  go_wp2_with fail
  go_ret
  exact ⟨l, v, hl, rfl, H.out.1, H.out.2⟩

def DHoPost (w : World) (e : Ending) (w' : World) : Prop :=
  ∃ (l : List Pk) (v : Value) (t : Int), Small l 4 ∧ e = .returned (.tuple #[v, .int .i64 t]) ∧ w.grownBy w' none ∧ w'.ownsRow w.heap.size 38 2 v l.length (pksV l)

set_option maxRecDepth 100000 in
set_option maxHeartbeats 4000000 in
theorem draw_holes (a : Option Addr) (n c : Nat) (w : World) (h : CodeIn w a n) : Calls Try.prog 7 #[.slice a n c] w (DHoPost w) := by
  have HA := Lib.hid h
  clear h
  go_enter Try.func7, Try.ntmps7
  go_wp2_with fail
  refine (open_any _ _ _ _ HA.out).mono ?_
  rintro e w1 ⟨rfl, hg, hr⟩
  have H1 := Lib.hid (And.intro hr hg)
  have HZ := Lib.hid hg.size
  clear hg hr
  go_wp2_with fail
  refine (pieces_draw _ _ H1.out.1).mono ?_
  rintro e w2 ⟨l, v, hl, rfl, hg, hr, hown⟩
  have hne := own_ne hown H1.out.1.lt
  have H2 := Lib.hid (And.intro hr (And.intro (grownBy_new H1.out.2 hg (Nat.le_refl _)) (And.intro (own_base hown HZ.out) (And.intro hne hl))))
  clear hg hr hown hne hl
  go_wp2_with fail
  refine (off_any _ _ _ _ H2.out.1 (by omega) (by omega) (by omega)).mono ?_
  rintro e w3 ⟨t, hp, rfl, hg, hr⟩
  have H3 := Lib.hid (And.intro (grownBy_new H2.out.2.1 hg (Nat.le_refl _)) (H2.out.2.2.1.kept hg H2.out.2.2.2.1))
  clear hg hr hp
  go_wp2_with fail
  exact bodyPost_ret (v := .tuple #[v, .int .i64 t]) (by simp [results, Try.results7, go_sem]) rfl ⟨l, v, t, H2.out.2.2.2.2, rfl, H3.out.1, H3.out.2⟩

def DAdPost (w : World) (e : Ending) (w' : World) : Prop :=
  ∃ (l : List Pk) (v : Value) (p : Int) (m : List UInt8), Small l 4 ∧ NearPk (p, m) ∧ e = .returned (.tuple #[v, .agg #[.int .i64 p, .string ⟨m.toArray⟩]]) ∧ w.grownBy w' none ∧ w'.ownsRow w.heap.size 38 2 v l.length (pksV l)

end Go.Proofs.Ytobibbfamkjlaaa
