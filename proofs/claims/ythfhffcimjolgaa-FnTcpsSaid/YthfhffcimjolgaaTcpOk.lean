/- Which segments are right: the program's own test and the model's, over every segment. -/
import Derived.Test.YthfhffcimjolgaaFrmOk
import Derived.Test.YthfhffcimjolgaaMineR
namespace Go.Proofs.Ythfhffcimjolgaa
open Go.RowKit

abbrev Rg := Int × Int
def RgAt (w : World) (a : Option Addr) (l : List Rg) : Prop :=
  l = [] ∨ ∃ b off, a = some ⟨b, off, none⟩ ∧ b < w.heap.size ∧ ∀ i (h : i < l.length), w.cell? ⟨b, off + i * 2, none⟩ = some (.int .i64 (l[i]).1) ∧ w.cell? ⟨b, off + i * 2 + 1, none⟩ = some (.int .i64 (l[i]).2)
theorem RgAt.kept {w w' : World} {a : Option Addr} {l : List Rg} (h : RgAt w a l) (hg : w.grownBy w' none) : RgAt w' a l := by
  rcases h with h | ⟨b, off, ha, hb, hc⟩
  · exact .inl h
  · exact .inr ⟨b, off, ha, Nat.lt_of_lt_of_le hb hg.size, fun i hi => ⟨hg.cell (hc i hi).1 (by simp), hg.cell (hc i hi).2 (by simp)⟩⟩
def rgOk (x : Rg) : Prop := 0 ≤ x.1 ∧ x.1 < 4294967296 ∧ 0 ≤ x.2 ∧ x.2 < 4294967296
instance (x : Rg) : Decidable (rgOk x) := by unfold rgOk; infer_instance
def sackP (l : List Rg) : Prop := l.length ≤ 3 ∧ ∀ x ∈ l, rgOk x
instance (l : List Rg) : Decidable (sackP l) := by unfold sackP; infer_instance
theorem rg_next (l : List Rg) (j : Nat) (h : j < l.length) (ha : ∀ x ∈ l.take j, rgOk x) (hx : rgOk l[j]) : ∀ x ∈ l.take (j + 1), rgOk x := by
  intro x hm
  rw [List.take_succ_eq_append_getElem h, List.mem_append, List.mem_singleton] at hm
  rcases hm with hm | rfl
  · exact ha x hm
  · exact hx
def RgRel (w : World) (l : List Rg) (i : Value) (wr : World) : Prop :=
  ∃ j : Nat, j ≤ l.length ∧ i = .int .i64 j ∧ w.grownBy wr none ∧ ∀ x ∈ l.take j, rgOk x

set_option maxRecDepth 100000 in
set_option maxHeartbeats 1000000 in
theorem sacks_any (a : Option Addr) (c : Nat) (l : List Rg) (w : World) (h : RgAt w a l) : Calls Try.prog 36 #[.slice a l.length c] w fun e w' => e = .returned (.bool (decide (sackP l))) ∧ w.grownBy w' none := by
  have H := Lib.hid h
  clear h
  by_cases h3 : 3 < l.length
  · go_enter Try.func36, Try.ntmps36
    go_wp2_with fail
    go_ret
    exact ⟨ret_b (decide_eq_false (fun h => by have := h.1; omega)).symm, World.grownBy.refl _ _⟩
  · go_enter Try.func36, Try.ntmps36
    go_wp2_with fail
    go_loopw [10] (fun i wr => RgRel w l i wr) (fun i _ => l.length - (intOf i).toNat)
    case atStart => exact ⟨0, Nat.zero_le _, rfl, World.grownBy.refl _ _, by simp⟩
    case round =>
      obtain ⟨j, hj, rfl, hg, hall⟩ := hrel
      have HS := Lib.hid (And.intro hg hall)
      clear hg hall
      by_cases hlt : j < l.length
      · rcases (H.out.kept HS.out.1) with h0 | ⟨b, off, rfl, hb, hc⟩
        · rw [h0] at hlt
          simp at hlt
        · obtain ⟨c0, c1⟩ := hc j hlt
          have HC := Lib.hid hc
          clear hc
          generalize hx : l[j] = x at *
          have HX := Lib.hid hx
          clear hx
          obtain ⟨u, v⟩ := x
          have hlt' : (j : Int) < (l.length : Int) := by omega
          have HX2 := HX.out
          cases h1 : goesB u
          · have HN := Lib.hid (show ¬ sackP l from fun hh => by
              have hm := hh.2 l[j] (List.getElem_mem hlt)
              rw [HX2] at hm
              exact goes_not h1 ⟨hm.1, hm.2.1⟩)
            clear HX2
            go_wp2_with (go_at_call 18; refine (goes_any _ _).mono ?_; rintro e w' ⟨rfl, rfl⟩; rw [h1])
            go_ret
            exact ⟨ret_b (decide_eq_false HN.out).symm, grownBy_trans HS.out.1 (World.grownBy_alloc _ _ _)⟩
          · cases h2 : goesB v
            · have HN := Lib.hid (show ¬ sackP l from fun hh => by
                have hm := hh.2 l[j] (List.getElem_mem hlt)
                rw [HX2] at hm
                exact goes_not h2 ⟨hm.2.2.1, hm.2.2.2⟩)
              clear HX2
              go_wp2_with (go_at_call 18; refine (goes_any _ _).mono ?_; rintro e w' ⟨rfl, rfl⟩; first | rw [h1] | rw [h2])
              go_ret
              exact ⟨ret_b (decide_eq_false HN.out).symm, grownBy_trans HS.out.1 (World.grownBy_alloc _ _ _)⟩
            · have HO := Lib.hid (show rgOk l[j] by rw [HX2]; have a1 := goes_of h1; have a2 := goes_of h2; exact ⟨a1.1, a1.2, a2.1, a2.2⟩)
              clear HX2
              go_wp2_with (go_at_call 18; refine (goes_any _ _).mono ?_; rintro e w' ⟨rfl, rfl⟩; first | rw [h1] | rw [h2])
              go_roundw
              case rel => exact ⟨j + 1, hlt, by go_num, grownBy_trans HS.out.1 (World.grownBy_alloc _ _ _), rg_next l j hlt HS.out.2 HO.out⟩
              case measure => simp [intOf]; omega
      · obtain rfl : j = l.length := by omega
        go_wp2_with fail
        go_ret
        refine ⟨ret_b (decide_eq_true ⟨by omega, fun x hx => HS.out.2 x (by rw [List.take_length]; exact hx)⟩).symm, HS.out.1⟩

def tcpA (f o s k g n : Int) (b : List UInt8) : Prop := 0 ≤ f ∧ f ≤ 65535 ∧ 0 ≤ o ∧ o ≤ 65535 ∧ 0 ≤ s ∧ s < 4294967296 ∧ 0 ≤ k ∧ k < 4294967296 ∧ 0 ≤ g ∧ g ≤ 63 ∧ 0 ≤ n ∧ n ≤ 65535 ∧ b.length ≤ 200
instance (f o s k g n : Int) (b : List UInt8) : Decidable (tcpA f o s k g n b) := by unfold tcpA; infer_instance
def tcpOk (f o s k g n : Int) (l : List Rg) (b : List UInt8) : Prop := tcpA f o s k g n b ∧ sackP l
instance (f o s k g n : Int) (l : List Rg) (b : List UInt8) : Decidable (tcpOk f o s k g n l b) := by unfold tcpOk; infer_instance
abbrev tcpV (f o s k g n : Int) (a : Option Addr) (c : Nat) (l : List Rg) (b : List UInt8) : Value := .agg #[.int .i64 f, .int .i64 o, .int .i64 s, .int .i64 k, .int .i64 g, .int .i64 n, .slice a l.length c, .string ⟨b.toArray⟩]

set_option maxRecDepth 100000 in
set_option maxHeartbeats 1000000 in
theorem tcp_ok_impl (f o s k g n : Int) (a : Option Addr) (c : Nat) (l : List Rg) (b : List UInt8) (w : World) (h : RgAt w a l) : Calls Try.prog 13 #[tcpV f o s k g n a c l b] w fun e w' => e = .returned (.bool (decide (tcpOk f o s k g n l b))) ∧ w.grownBy w' none := by
  have HR := Lib.hid h
  clear h
  cases h1 : inB f 0 65535
  · have HQ := Lib.hid trivial
    have h1q := in_not h1
    have h1k := Lib.hid h1
    clear h1
    go_enter Try.func13, Try.ntmps13
    go_wp2_with (first
      | (go_at_call 35; refine (wordOk_any _ _).mono ?_; rintro e w' ⟨rfl, rfl⟩; first | rw [h1k.out])
      | (go_at_call 18; refine (goes_any _ _).mono ?_; rintro e w' ⟨rfl, rfl⟩; first | rw [h1k.out]))
    all_goals
      go_ret
      refine ⟨ret_b ?_, by first | exact World.grownBy_alloc _ _ _ | exact grownBy_trans (World.grownBy_alloc _ _ _) (by assumption)⟩
      have hs : ({ data := b.toArray } : ByteArray).size = b.length := rfl
      first
      | (symm; exact decide_eq_false (fun h => by have h' := h.1; unfold tcpA at h'; omega))
      | (symm; exact decide_eq_false (fun h => (absurd rfl (by assumption)) h.2))
      | (symm; exact decide_eq_true ⟨by unfold tcpA; omega, (absurd rfl (by assumption))⟩)
      | (refine Bool.eq_iff_iff.mpr ?_; simp only [decide_eq_true_eq]; exact ⟨fun h => ⟨by unfold tcpA; omega, (absurd rfl (by assumption))⟩, fun h => by have h' := h.1; unfold tcpA at h'; omega⟩)

  · cases h2 : inB o 0 65535
    · have HQ := Lib.hid trivial
      have h1q := in_of h1
      have h2q := in_not h2
      have h1k := Lib.hid h1
      have h2k := Lib.hid h2
      clear h1 h2
      go_enter Try.func13, Try.ntmps13
      go_wp2_with (first
        | (go_at_call 35; refine (wordOk_any _ _).mono ?_; rintro e w' ⟨rfl, rfl⟩; first | rw [h1k.out] | rw [h2k.out])
        | (go_at_call 18; refine (goes_any _ _).mono ?_; rintro e w' ⟨rfl, rfl⟩; first | rw [h1k.out] | rw [h2k.out]))
      all_goals
        go_ret
        refine ⟨ret_b ?_, by first | exact World.grownBy_alloc _ _ _ | exact grownBy_trans (World.grownBy_alloc _ _ _) (by assumption)⟩
        have hs : ({ data := b.toArray } : ByteArray).size = b.length := rfl
        first
        | (symm; exact decide_eq_false (fun h => by have h' := h.1; unfold tcpA at h'; omega))
        | (symm; exact decide_eq_false (fun h => (absurd rfl (by assumption)) h.2))
        | (symm; exact decide_eq_true ⟨by unfold tcpA; omega, (absurd rfl (by assumption))⟩)
        | (refine Bool.eq_iff_iff.mpr ?_; simp only [decide_eq_true_eq]; exact ⟨fun h => ⟨by unfold tcpA; omega, (absurd rfl (by assumption))⟩, fun h => by have h' := h.1; unfold tcpA at h'; omega⟩)

    · cases h3 : inB n 0 65535
      · have HQ := Lib.hid trivial
        have h1q := in_of h1
        have h2q := in_of h2
        have h3q := in_not h3
        have h1k := Lib.hid h1
        have h2k := Lib.hid h2
        have h3k := Lib.hid h3
        clear h1 h2 h3
        go_enter Try.func13, Try.ntmps13
        go_wp2_with (first
          | (go_at_call 35; refine (wordOk_any _ _).mono ?_; rintro e w' ⟨rfl, rfl⟩; first | rw [h1k.out] | rw [h2k.out] | rw [h3k.out])
          | (go_at_call 18; refine (goes_any _ _).mono ?_; rintro e w' ⟨rfl, rfl⟩; first | rw [h1k.out] | rw [h2k.out] | rw [h3k.out]))
        all_goals
          go_ret
          refine ⟨ret_b ?_, by first | exact World.grownBy_alloc _ _ _ | exact grownBy_trans (World.grownBy_alloc _ _ _) (by assumption)⟩
          have hs : ({ data := b.toArray } : ByteArray).size = b.length := rfl
          first
          | (symm; exact decide_eq_false (fun h => by have h' := h.1; unfold tcpA at h'; omega))
          | (symm; exact decide_eq_false (fun h => (absurd rfl (by assumption)) h.2))
          | (symm; exact decide_eq_true ⟨by unfold tcpA; omega, (absurd rfl (by assumption))⟩)
          | (refine Bool.eq_iff_iff.mpr ?_; simp only [decide_eq_true_eq]; exact ⟨fun h => ⟨by unfold tcpA; omega, (absurd rfl (by assumption))⟩, fun h => by have h' := h.1; unfold tcpA at h'; omega⟩)

      · cases h4 : goesB s
        · have HQ := Lib.hid trivial
          have h1q := in_of h1
          have h2q := in_of h2
          have h3q := in_of h3
          have h4q := goes_not h4
          have h1k := Lib.hid h1
          have h2k := Lib.hid h2
          have h3k := Lib.hid h3
          have h4k := Lib.hid h4
          clear h1 h2 h3 h4
          go_enter Try.func13, Try.ntmps13
          go_wp2_with (first
            | (go_at_call 35; refine (wordOk_any _ _).mono ?_; rintro e w' ⟨rfl, rfl⟩; first | rw [h1k.out] | rw [h2k.out] | rw [h3k.out] | rw [h4k.out])
            | (go_at_call 18; refine (goes_any _ _).mono ?_; rintro e w' ⟨rfl, rfl⟩; first | rw [h1k.out] | rw [h2k.out] | rw [h3k.out] | rw [h4k.out]))
          all_goals
            go_ret
            refine ⟨ret_b ?_, by first | exact World.grownBy_alloc _ _ _ | exact grownBy_trans (World.grownBy_alloc _ _ _) (by assumption)⟩
            have hs : ({ data := b.toArray } : ByteArray).size = b.length := rfl
            first
            | (symm; exact decide_eq_false (fun h => by have h' := h.1; unfold tcpA at h'; omega))
            | (symm; exact decide_eq_false (fun h => (absurd rfl (by assumption)) h.2))
            | (symm; exact decide_eq_true ⟨by unfold tcpA; omega, (absurd rfl (by assumption))⟩)
            | (refine Bool.eq_iff_iff.mpr ?_; simp only [decide_eq_true_eq]; exact ⟨fun h => ⟨by unfold tcpA; omega, (absurd rfl (by assumption))⟩, fun h => by have h' := h.1; unfold tcpA at h'; omega⟩)

        · cases h5 : goesB k
          · have HQ := Lib.hid trivial
            have h1q := in_of h1
            have h2q := in_of h2
            have h3q := in_of h3
            have h4q := goes_of h4
            have h5q := goes_not h5
            have h1k := Lib.hid h1
            have h2k := Lib.hid h2
            have h3k := Lib.hid h3
            have h4k := Lib.hid h4
            have h5k := Lib.hid h5
            clear h1 h2 h3 h4 h5
            go_enter Try.func13, Try.ntmps13
            go_wp2_with (first
              | (go_at_call 35; refine (wordOk_any _ _).mono ?_; rintro e w' ⟨rfl, rfl⟩; first | rw [h1k.out] | rw [h2k.out] | rw [h3k.out] | rw [h4k.out] | rw [h5k.out])
              | (go_at_call 18; refine (goes_any _ _).mono ?_; rintro e w' ⟨rfl, rfl⟩; first | rw [h1k.out] | rw [h2k.out] | rw [h3k.out] | rw [h4k.out] | rw [h5k.out])
              | (go_at_call 36; refine (sacks_any _ _ _ _ (HR.out.kept (World.grownBy_alloc _ _ _))).mono ?_; rintro e w1 ⟨rfl, hg⟩; rw [HB.out]; have c0 := hg.cell (a := ⟨w.heap.size, 7, none⟩) (v := .string ⟨b.toArray⟩) (by go_simp) (by simp)))
            all_goals
              go_ret
              refine ⟨ret_b ?_, by first | exact World.grownBy_alloc _ _ _ | exact grownBy_trans (World.grownBy_alloc _ _ _) (by assumption)⟩
              have hs : ({ data := b.toArray } : ByteArray).size = b.length := rfl
              first
              | (symm; exact decide_eq_false (fun h => by have h' := h.1; unfold tcpA at h'; omega))
              | (symm; exact decide_eq_false (fun h => (absurd rfl (by assumption)) h.2))
              | (symm; exact decide_eq_true ⟨by unfold tcpA; omega, (absurd rfl (by assumption))⟩)
              | (refine Bool.eq_iff_iff.mpr ?_; simp only [decide_eq_true_eq]; exact ⟨fun h => ⟨by unfold tcpA; omega, (absurd rfl (by assumption))⟩, fun h => by have h' := h.1; unfold tcpA at h'; omega⟩)

          · by_cases hQ : sackP l
            · have HQ := Lib.hid hQ
              have HB := Lib.hid (decide_eq_true hQ)
              clear hQ
              have h1q := in_of h1
              have h2q := in_of h2
              have h3q := in_of h3
              have h4q := goes_of h4
              have h5q := goes_of h5
              have h1k := Lib.hid h1
              have h2k := Lib.hid h2
              have h3k := Lib.hid h3
              have h4k := Lib.hid h4
              have h5k := Lib.hid h5
              clear h1 h2 h3 h4 h5
              go_enter Try.func13, Try.ntmps13
              go_wp2_with (first
                | (go_at_call 35; refine (wordOk_any _ _).mono ?_; rintro e w' ⟨rfl, rfl⟩; first | rw [h1k.out] | rw [h2k.out] | rw [h3k.out] | rw [h4k.out] | rw [h5k.out])
                | (go_at_call 18; refine (goes_any _ _).mono ?_; rintro e w' ⟨rfl, rfl⟩; first | rw [h1k.out] | rw [h2k.out] | rw [h3k.out] | rw [h4k.out] | rw [h5k.out])
                | (go_at_call 36; refine (sacks_any _ _ _ _ (HR.out.kept (World.grownBy_alloc _ _ _))).mono ?_; rintro e w1 ⟨rfl, hg⟩; rw [HB.out]; have c0 := hg.cell (a := ⟨w.heap.size, 7, none⟩) (v := .string ⟨b.toArray⟩) (by go_simp) (by simp)))
              all_goals
                go_ret
                refine ⟨ret_b ?_, by first | exact World.grownBy_alloc _ _ _ | exact grownBy_trans (World.grownBy_alloc _ _ _) (by assumption)⟩
                have hs : ({ data := b.toArray } : ByteArray).size = b.length := rfl
                first
                | (symm; exact decide_eq_false (fun h => by have h' := h.1; unfold tcpA at h'; omega))
                | (symm; exact decide_eq_false (fun h => HQ.out h.2))
                | (symm; exact decide_eq_true ⟨by unfold tcpA; omega, HQ.out⟩)
                | (refine Bool.eq_iff_iff.mpr ?_; simp only [decide_eq_true_eq]; exact ⟨fun h => ⟨by unfold tcpA; omega, HQ.out⟩, fun h => by have h' := h.1; unfold tcpA at h'; omega⟩)

            · have HQ := Lib.hid hQ
              have HB := Lib.hid (decide_eq_false hQ)
              clear hQ
              have h1q := in_of h1
              have h2q := in_of h2
              have h3q := in_of h3
              have h4q := goes_of h4
              have h5q := goes_of h5
              have h1k := Lib.hid h1
              have h2k := Lib.hid h2
              have h3k := Lib.hid h3
              have h4k := Lib.hid h4
              have h5k := Lib.hid h5
              clear h1 h2 h3 h4 h5
              go_enter Try.func13, Try.ntmps13
              go_wp2_with (first
                | (go_at_call 35; refine (wordOk_any _ _).mono ?_; rintro e w' ⟨rfl, rfl⟩; first | rw [h1k.out] | rw [h2k.out] | rw [h3k.out] | rw [h4k.out] | rw [h5k.out])
                | (go_at_call 18; refine (goes_any _ _).mono ?_; rintro e w' ⟨rfl, rfl⟩; first | rw [h1k.out] | rw [h2k.out] | rw [h3k.out] | rw [h4k.out] | rw [h5k.out])
                | (go_at_call 36; refine (sacks_any _ _ _ _ (HR.out.kept (World.grownBy_alloc _ _ _))).mono ?_; rintro e w1 ⟨rfl, hg⟩; rw [HB.out]; have c0 := hg.cell (a := ⟨w.heap.size, 7, none⟩) (v := .string ⟨b.toArray⟩) (by go_simp) (by simp)))
              all_goals
                go_ret
                refine ⟨ret_b ?_, by first | exact World.grownBy_alloc _ _ _ | exact grownBy_trans (World.grownBy_alloc _ _ _) (by assumption)⟩
                have hs : ({ data := b.toArray } : ByteArray).size = b.length := rfl
                first
                | (symm; exact decide_eq_false (fun h => by have h' := h.1; unfold tcpA at h'; omega))
                | (symm; exact decide_eq_false (fun h => HQ.out h.2))
                | (symm; exact decide_eq_true ⟨by unfold tcpA; omega, HQ.out⟩)
                | (refine Bool.eq_iff_iff.mpr ?_; simp only [decide_eq_true_eq]; exact ⟨fun h => ⟨by unfold tcpA; omega, HQ.out⟩, fun h => by have h' := h.1; unfold tcpA at h'; omega⟩)


end Go.Proofs.Ythfhffcimjolgaa
