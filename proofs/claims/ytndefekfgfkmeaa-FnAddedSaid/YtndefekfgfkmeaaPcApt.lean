/- Two pieces that do not meet may come in either order; a piece that is added again changes nothing. -/
import Derived.Test.YtndefekfgfkmeaaPcSz
namespace Go.Proofs.Ytndefekfgfkmeaa
open Go.RowKit

set_option maxRecDepth 100000 in
set_option maxHeartbeats 1000000 in
theorem same_pieces (a b : Option Addr) (c d : Nat) (l : List Pk) (w : World) (h : PkAt w a l) (k : PkAt w b l) (hl : l.length ≤ 1048576) : Calls Try.prog 18 #[.slice a l.length c, .slice b l.length d] w fun e w' => e = .returned (.bool true) ∧ w.grownBy w' none := by
  have H := Lib.hid (And.intro h k)
  clear h k
  go_enter Try.func18, Try.ntmps18
  go_wp2_with fail
  go_loopw [5] (fun i wr => EqRel w l.length i wr) (fun i _ => l.length - (intOf i).toNat)
  case atStart => exact ⟨0, Nat.zero_le _, rfl, World.grownBy.refl _ _⟩
  case round =>
    obtain ⟨j, hj, rfl, hg⟩ := hrel
    have HS := Lib.hid hg
    clear hg
    by_cases hlt : j < l.length
    · rcases (H.out.1.kept HS.out) with h0 | ⟨b1, off1, rfl, hb1, hc⟩
      · rw [h0] at hlt
        simp at hlt
      · rcases (H.out.2.kept HS.out) with h0 | ⟨b2, off2, rfl, hb2, hd⟩
        · rw [h0] at hlt
          simp at hlt
        · obtain ⟨c0, c1⟩ := hc j hlt
          obtain ⟨d0, d1⟩ := hd j hlt
          clear hc hd
          generalize l[j] = x at *
          obtain ⟨t, m⟩ := x
          have hlt' : (j : Int) < (l.length : Int) := by omega
          have hj0 : (0 : Int) ≤ (j : Int) := by omega
          go_wp2_with fail
          go_quiet (fail)
          go_wp2_with fail
          go_roundw
          case rel => exact ⟨j + 1, hlt, by go_num, grownBy_trans HS.out (grownBy_drewN _)⟩
          case measure => first | (simp [intOf]; done) | (simp [intOf]; omega)
    · obtain rfl : j = l.length := by omega
      go_wp2_with fail
      go_ret
      exact ⟨rfl, HS.out⟩

theorem with_ends {B : Int} {l : List Pk} {x : Pk} (hl : ∀ y ∈ l, y.1 + (y.2.length : Int) ≤ B) (hx : x.1 + (x.2.length : Int) ≤ B) (hg : Good l) (hn : x.2 ≠ []) : ∀ y ∈ withL l x, y.1 + (y.2.length : Int) ≤ B := with_high l x hx hl hg hn
theorem small_ok {l : List Pk} (hg : Good l) (h0 : ∀ x ∈ l, 0 ≤ x.1) (h1 : ∀ x ∈ l, x.1 + (x.2.length : Int) ≤ 60) (hl : l.length ≤ 60) : PcsP l :=
  ⟨hl, fun x hx => ⟨h0 x hx, by have := h1 x hx; have := h0 x hx; omega, by have := List.length_pos_iff.mpr (hg.2 x hx); omega, by have := h1 x hx; have := h0 x hx; omega⟩, apart_of hg⟩
theorem add_ok_small {l : List Pk} {x : Pk} (hl : PcsP l) (h1 : ∀ y ∈ l, y.1 + (y.2.length : Int) ≤ 60) (hn : l.length < 60) (hx0 : 0 ≤ x.1) (hx1 : x.1 + (x.2.length : Int) ≤ 60) (hx2 : 1 ≤ x.2.length) : addOk l x = true ∧ PcsP (withL l x) ∧ (∀ y ∈ withL l x, y.1 + (y.2.length : Int) ≤ 60) := by
  have hne : x.2 ≠ [] := fun e => by rw [e] at hx2; simp at hx2
  have he := with_high l x hx1 h1 hl.good hne
  have hlo : ∀ y ∈ withL l x, 0 ≤ y.1 := fun y hy => by have := with_low (B := -1) l x (by omega) (fun p hp => by have := (hl.2.1 p hp).1; omega) y hy; omega
  have hw := with_len l x
  have hp := small_ok (with_good l x hl.good hne).1 hlo he (by omega)
  refine ⟨?_, hp, he⟩
  simp only [addOk, Bool.and_eq_true]
  exact ⟨⟨pcs_yes hl, decide_eq_true ⟨hx0, by omega, by omega, by omega⟩⟩, pcs_yes hp⟩
theorem add_again {l : List Pk} {x : Pk} (h : addOk l x = true) : withL (withL l x) x = withL l x ∧ addOk (withL l x) x = true := by
  have h' := h
  simp only [addOk, Bool.and_eq_true] at h
  obtain ⟨⟨h1, h2⟩, h3⟩ := h
  have hl := pcs_of h1
  have hn := pcs_of h3
  obtain ⟨_, _, hx2, _⟩ := pcIn_of h2
  have hne : x.2 ≠ [] := fun e => by rw [e] at hx2; simp at hx2
  obtain ⟨g1, b1⟩ := with_good l x hl.good hne
  obtain ⟨g2, b2⟩ := with_good (withL l x) x g1 hne
  have e : withL (withL l x) x = withL l x := good_eq g2 g1 fun a => by
    rw [b2, b1]
    cases byteL l a <;> cases pcAt x a <;> rfl
  refine ⟨e, ?_⟩
  simp only [addOk, Bool.and_eq_true]
  exact ⟨⟨h3, h2⟩, by rw [e]; exact h3⟩
theorem add_swap {l : List Pk} {x y : Pk} (hg : Good l) (hx : x.2 ≠ []) (hy : y.2 ≠ []) (h : x.1 + (x.2.length : Int) ≤ y.1) : withL (withL l x) y = withL (withL l y) x := by
  obtain ⟨g1, b1⟩ := with_good l x hg hx
  obtain ⟨g2, b2⟩ := with_good (withL l x) y g1 hy
  obtain ⟨g3, b3⟩ := with_good l y hg hy
  obtain ⟨g4, b4⟩ := with_good (withL l y) x g3 hx
  refine good_eq g2 g4 fun a => ?_
  rw [b2, b1, b4, b3]
  cases hxa : pcAt x a with
  | none => cases byteL l a <;> cases pcAt y a <;> rfl
  | some u =>
    have := pcAt_some hxa
    rw [pcAt_out (p := y) (.inl (by omega))]
    cases byteL l a <;> rfl

end Go.Proofs.Ytndefekfgfkmeaa
