/- Which segments are right: the model's test, over every segment. -/
import Derived.Test.YthfhffcimjolgaaTcpOk
namespace Go.Proofs.Ythfhffcimjolgaa
open Go.RowKit

set_option maxRecDepth 100000 in
theorem port_any (n : Int) (w : World) : Calls Try.prog 37 #[.int .i64 n] w fun e w' => e = .returned (.bool (inB n 0 65535)) ∧ w = w' := by
  go_enter Try.func37, Try.ntmps37
  go_wp2_with (go_at_call 38; refine (in_any _ _ _ _).mono ?_; rintro e w' ⟨rfl, rfl⟩)
  go_ret
  exact ⟨rfl, rfl⟩

set_option maxRecDepth 100000 in
set_option maxHeartbeats 2000000 in
theorem tcp_ok_spec (f o s k g n : Int) (a : Option Addr) (c : Nat) (l : List Rg) (b : List UInt8) (w : World) (h : RgAt w a l) (hl : l.length ≤ maxLen) : Calls Try.prog 14 #[tcpV f o s k g n a c l b] w fun e w' => e = .returned (.bool (decide (tcpOk f o s k g n l b))) ∧ w.grownBy w' none := by
  have hA := World.grownBy_alloc w (.cells #[.int .i64 f, .int .i64 o, .int .i64 s, .int .i64 k, .int .i64 g, .int .i64 n, .slice a l.length c, .string ⟨b.toArray⟩] 26) none
  have H := Lib.hid (h.kept hA)
  have HL := Lib.hid hl
  have u0 : (w.alloc (.cells #[.int .i64 f, .int .i64 o, .int .i64 s, .int .i64 k, .int .i64 g, .int .i64 n, .slice a l.length c, .string ⟨b.toArray⟩] 26)).cell? ⟨w.heap.size, 0, none⟩ = some (.int .i64 f) := by go_simp
  have u1 : (w.alloc (.cells #[.int .i64 f, .int .i64 o, .int .i64 s, .int .i64 k, .int .i64 g, .int .i64 n, .slice a l.length c, .string ⟨b.toArray⟩] 26)).cell? ⟨w.heap.size, 1, none⟩ = some (.int .i64 o) := by go_simp
  have u2 : (w.alloc (.cells #[.int .i64 f, .int .i64 o, .int .i64 s, .int .i64 k, .int .i64 g, .int .i64 n, .slice a l.length c, .string ⟨b.toArray⟩] 26)).cell? ⟨w.heap.size, 2, none⟩ = some (.int .i64 s) := by go_simp
  have u3 : (w.alloc (.cells #[.int .i64 f, .int .i64 o, .int .i64 s, .int .i64 k, .int .i64 g, .int .i64 n, .slice a l.length c, .string ⟨b.toArray⟩] 26)).cell? ⟨w.heap.size, 3, none⟩ = some (.int .i64 k) := by go_simp
  have u4 : (w.alloc (.cells #[.int .i64 f, .int .i64 o, .int .i64 s, .int .i64 k, .int .i64 g, .int .i64 n, .slice a l.length c, .string ⟨b.toArray⟩] 26)).cell? ⟨w.heap.size, 4, none⟩ = some (.int .i64 g) := by go_simp
  have u5 : (w.alloc (.cells #[.int .i64 f, .int .i64 o, .int .i64 s, .int .i64 k, .int .i64 g, .int .i64 n, .slice a l.length c, .string ⟨b.toArray⟩] 26)).cell? ⟨w.heap.size, 5, none⟩ = some (.int .i64 n) := by go_simp
  have u6 : (w.alloc (.cells #[.int .i64 f, .int .i64 o, .int .i64 s, .int .i64 k, .int .i64 g, .int .i64 n, .slice a l.length c, .string ⟨b.toArray⟩] 26)).cell? ⟨w.heap.size, 6, none⟩ = some (.slice a l.length c) := by go_simp
  have u7 : (w.alloc (.cells #[.int .i64 f, .int .i64 o, .int .i64 s, .int .i64 k, .int .i64 g, .int .i64 n, .slice a l.length c, .string ⟨b.toArray⟩] 26)).cell? ⟨w.heap.size, 7, none⟩ = some (.string ⟨b.toArray⟩) := by go_simp
  have HU := Lib.hid (And.intro u0 (And.intro u1 (And.intro u2 (And.intro u3 (And.intro u4 (And.intro u5 (And.intro u6 u7)))))))
  have HA := Lib.hid hA
  clear h hl u0 u1 u2 u3 u4 u5 u6 u7 hA
  go_enter Try.func14, Try.ntmps14
  go_wp2_with fail
  go_loopw [3] (fun i wr => RgRel (w.alloc (.cells #[.int .i64 f, .int .i64 o, .int .i64 s, .int .i64 k, .int .i64 g, .int .i64 n, .slice a l.length c, .string ⟨b.toArray⟩] 26)) l i wr) (fun i _ => l.length - (intOf i).toNat)
  case atStart => exact ⟨0, Nat.zero_le _, rfl, World.grownBy.refl _ _, by simp⟩
  case round =>
    obtain ⟨j, hj, rfl, hg, hall⟩ := hrel
    have u0 := hg.cell HU.out.1 (by simp)
    have u1 := hg.cell HU.out.2.1 (by simp)
    have u2 := hg.cell HU.out.2.2.1 (by simp)
    have u3 := hg.cell HU.out.2.2.2.1 (by simp)
    have u4 := hg.cell HU.out.2.2.2.2.1 (by simp)
    have u5 := hg.cell HU.out.2.2.2.2.2.1 (by simp)
    have u6 := hg.cell HU.out.2.2.2.2.2.2.1 (by simp)
    have u7 := hg.cell HU.out.2.2.2.2.2.2.2 (by simp)
    have HK := Lib.hid (H.out.kept hg)
    have HS := Lib.hid (And.intro (grownBy_trans HA.out hg) (And.intro hall hg))
    clear hg hall
    by_cases hlt : j < l.length
    · rcases HK.out with h0 | ⟨b', off, rfl, hb, hc⟩
      · rw [h0] at hlt
        simp at hlt
      · obtain ⟨c0, c1⟩ := hc j hlt
        have HC := Lib.hid hc
        clear hc
        generalize hx : l[j] = x at *
        have HX := Lib.hid hx
        clear hx
        obtain ⟨u, v⟩ := x
        have hlt' : (j : Int) < (l.length : Int) := by omega
        have hwj : IntKind.i64.wrap ((j : Int) + 1) = (j : Int) + 1 := IntWalk.i64_in _ (by have := HL.out; unfold maxLen at this; omega)
        have HX2 := HX.out
        cases h1 : goesB u
        · have HN := Lib.hid (show ¬ sackP l from fun hh => by
            have hm := hh.2 l[j] (List.getElem_mem hlt)
            rw [HX2] at hm
            exact goes_not h1 ⟨hm.1, hm.2.1⟩)
          clear HX2
          go_wp2_with (go_at_call 27; refine (seq_any _ _).mono ?_; rintro e w' ⟨rfl, rfl⟩; rw [h1])
          go_ret
          exact ⟨ret_b (decide_eq_false (fun h => HN.out h.2)).symm, HS.out.1⟩
        · cases h2 : goesB v
          · have HN := Lib.hid (show ¬ sackP l from fun hh => by
              have hm := hh.2 l[j] (List.getElem_mem hlt)
              rw [HX2] at hm
              exact goes_not h2 ⟨hm.2.2.1, hm.2.2.2⟩)
            clear HX2
            go_wp2_with (go_at_call 27; refine (seq_any _ _).mono ?_; rintro e w' ⟨rfl, rfl⟩; first | rw [h1] | rw [h2])
            go_ret
            exact ⟨ret_b (decide_eq_false (fun h => HN.out h.2)).symm, HS.out.1⟩
          · have HO := Lib.hid (show rgOk l[j] by rw [HX2]; have a1 := goes_of h1; have a2 := goes_of h2; exact ⟨a1.1, a1.2, a2.1, a2.2⟩)
            clear HX2
            go_wp2_with (go_at_call 27; refine (seq_any _ _).mono ?_; rintro e w' ⟨rfl, rfl⟩; first | rw [h1] | rw [h2])
            go_roundw
            case rel => exact ⟨j + 1, hlt, by go_num, HS.out.2.2, rg_next l j hlt HS.out.2.1 HO.out⟩
            case measure => simp [intOf]; omega
    · obtain rfl : j = l.length := by omega
      have HQ := Lib.hid (show ∀ x ∈ l, rgOk x from fun x hx => HS.out.2.1 x (by rw [List.take_length]; exact hx))
      cases h1 : inB f 0 65535
      · have h1q := in_not h1
        have h1k := Lib.hid h1
        clear h1
        go_wp2_with (first
          | (go_at_call 37; refine (port_any _ _).mono ?_; rintro e w' ⟨rfl, rfl⟩; first | rw [h1k.out])
          | (go_at_call 27; refine (seq_any _ _).mono ?_; rintro e w' ⟨rfl, rfl⟩; first | rw [h1k.out])
          | (go_at_call 38; refine (in_any _ _ _ _).mono ?_; rintro e w' ⟨rfl, rfl⟩; first | rw [h1k.out]))
        all_goals
          go_ret
          refine ⟨ret_b ?_, HS.out.1⟩
          have hs : ({ data := b.toArray } : ByteArray).size = b.length := rfl
          first
          | (symm; exact decide_eq_false (fun h => by have h' := h.1; unfold tcpA at h'; omega))
          | (symm; exact decide_eq_false (fun h => by have h' := h.2.1; omega))
          | (symm; exact decide_eq_true ⟨by unfold tcpA; omega, by omega, HQ.out⟩)
          | (refine Bool.eq_iff_iff.mpr ?_; simp only [decide_eq_true_eq]; exact ⟨fun h => ⟨by unfold tcpA; omega, by omega, HQ.out⟩, fun h => by have h' := h.1; have h'' := h.2.1; unfold tcpA at h'; omega⟩)

      · cases h2 : inB o 0 65535
        · have h1q := in_of h1
          have h2q := in_not h2
          have h1k := Lib.hid h1
          have h2k := Lib.hid h2
          clear h1 h2
          go_wp2_with (first
            | (go_at_call 37; refine (port_any _ _).mono ?_; rintro e w' ⟨rfl, rfl⟩; first | rw [h1k.out] | rw [h2k.out])
            | (go_at_call 27; refine (seq_any _ _).mono ?_; rintro e w' ⟨rfl, rfl⟩; first | rw [h1k.out] | rw [h2k.out])
            | (go_at_call 38; refine (in_any _ _ _ _).mono ?_; rintro e w' ⟨rfl, rfl⟩; first | rw [h1k.out] | rw [h2k.out]))
          all_goals
            go_ret
            refine ⟨ret_b ?_, HS.out.1⟩
            have hs : ({ data := b.toArray } : ByteArray).size = b.length := rfl
            first
            | (symm; exact decide_eq_false (fun h => by have h' := h.1; unfold tcpA at h'; omega))
            | (symm; exact decide_eq_false (fun h => by have h' := h.2.1; omega))
            | (symm; exact decide_eq_true ⟨by unfold tcpA; omega, by omega, HQ.out⟩)
            | (refine Bool.eq_iff_iff.mpr ?_; simp only [decide_eq_true_eq]; exact ⟨fun h => ⟨by unfold tcpA; omega, by omega, HQ.out⟩, fun h => by have h' := h.1; have h'' := h.2.1; unfold tcpA at h'; omega⟩)

        · cases h4 : goesB s
          · have h1q := in_of h1
            have h2q := in_of h2
            have h4q := goes_not h4
            have h1k := Lib.hid h1
            have h2k := Lib.hid h2
            have h4k := Lib.hid h4
            clear h1 h2 h4
            go_wp2_with (first
              | (go_at_call 37; refine (port_any _ _).mono ?_; rintro e w' ⟨rfl, rfl⟩; first | rw [h1k.out] | rw [h2k.out] | rw [h4k.out])
              | (go_at_call 27; refine (seq_any _ _).mono ?_; rintro e w' ⟨rfl, rfl⟩; first | rw [h1k.out] | rw [h2k.out] | rw [h4k.out])
              | (go_at_call 38; refine (in_any _ _ _ _).mono ?_; rintro e w' ⟨rfl, rfl⟩; first | rw [h1k.out] | rw [h2k.out] | rw [h4k.out]))
            all_goals
              go_ret
              refine ⟨ret_b ?_, HS.out.1⟩
              have hs : ({ data := b.toArray } : ByteArray).size = b.length := rfl
              first
              | (symm; exact decide_eq_false (fun h => by have h' := h.1; unfold tcpA at h'; omega))
              | (symm; exact decide_eq_false (fun h => by have h' := h.2.1; omega))
              | (symm; exact decide_eq_true ⟨by unfold tcpA; omega, by omega, HQ.out⟩)
              | (refine Bool.eq_iff_iff.mpr ?_; simp only [decide_eq_true_eq]; exact ⟨fun h => ⟨by unfold tcpA; omega, by omega, HQ.out⟩, fun h => by have h' := h.1; have h'' := h.2.1; unfold tcpA at h'; omega⟩)

          · cases h5 : goesB k
            · have h1q := in_of h1
              have h2q := in_of h2
              have h4q := goes_of h4
              have h5q := goes_not h5
              have h1k := Lib.hid h1
              have h2k := Lib.hid h2
              have h4k := Lib.hid h4
              have h5k := Lib.hid h5
              clear h1 h2 h4 h5
              go_wp2_with (first
                | (go_at_call 37; refine (port_any _ _).mono ?_; rintro e w' ⟨rfl, rfl⟩; first | rw [h1k.out] | rw [h2k.out] | rw [h4k.out] | rw [h5k.out])
                | (go_at_call 27; refine (seq_any _ _).mono ?_; rintro e w' ⟨rfl, rfl⟩; first | rw [h1k.out] | rw [h2k.out] | rw [h4k.out] | rw [h5k.out])
                | (go_at_call 38; refine (in_any _ _ _ _).mono ?_; rintro e w' ⟨rfl, rfl⟩; first | rw [h1k.out] | rw [h2k.out] | rw [h4k.out] | rw [h5k.out]))
              all_goals
                go_ret
                refine ⟨ret_b ?_, HS.out.1⟩
                have hs : ({ data := b.toArray } : ByteArray).size = b.length := rfl
                first
                | (symm; exact decide_eq_false (fun h => by have h' := h.1; unfold tcpA at h'; omega))
                | (symm; exact decide_eq_false (fun h => by have h' := h.2.1; omega))
                | (symm; exact decide_eq_true ⟨by unfold tcpA; omega, by omega, HQ.out⟩)
                | (refine Bool.eq_iff_iff.mpr ?_; simp only [decide_eq_true_eq]; exact ⟨fun h => ⟨by unfold tcpA; omega, by omega, HQ.out⟩, fun h => by have h' := h.1; have h'' := h.2.1; unfold tcpA at h'; omega⟩)

            · cases h6 : inB g 0 63
              · have h1q := in_of h1
                have h2q := in_of h2
                have h4q := goes_of h4
                have h5q := goes_of h5
                have h6q := in_not h6
                have h1k := Lib.hid h1
                have h2k := Lib.hid h2
                have h4k := Lib.hid h4
                have h5k := Lib.hid h5
                have h6k := Lib.hid h6
                clear h1 h2 h4 h5 h6
                go_wp2_with (first
                  | (go_at_call 37; refine (port_any _ _).mono ?_; rintro e w' ⟨rfl, rfl⟩; first | rw [h1k.out] | rw [h2k.out] | rw [h4k.out] | rw [h5k.out] | rw [h6k.out])
                  | (go_at_call 27; refine (seq_any _ _).mono ?_; rintro e w' ⟨rfl, rfl⟩; first | rw [h1k.out] | rw [h2k.out] | rw [h4k.out] | rw [h5k.out] | rw [h6k.out])
                  | (go_at_call 38; refine (in_any _ _ _ _).mono ?_; rintro e w' ⟨rfl, rfl⟩; first | rw [h1k.out] | rw [h2k.out] | rw [h4k.out] | rw [h5k.out] | rw [h6k.out]))
                all_goals
                  go_ret
                  refine ⟨ret_b ?_, HS.out.1⟩
                  have hs : ({ data := b.toArray } : ByteArray).size = b.length := rfl
                  first
                  | (symm; exact decide_eq_false (fun h => by have h' := h.1; unfold tcpA at h'; omega))
                  | (symm; exact decide_eq_false (fun h => by have h' := h.2.1; omega))
                  | (symm; exact decide_eq_true ⟨by unfold tcpA; omega, by omega, HQ.out⟩)
                  | (refine Bool.eq_iff_iff.mpr ?_; simp only [decide_eq_true_eq]; exact ⟨fun h => ⟨by unfold tcpA; omega, by omega, HQ.out⟩, fun h => by have h' := h.1; have h'' := h.2.1; unfold tcpA at h'; omega⟩)

              · cases h3 : inB n 0 65535
                · have h1q := in_of h1
                  have h2q := in_of h2
                  have h4q := goes_of h4
                  have h5q := goes_of h5
                  have h6q := in_of h6
                  have h3q := in_not h3
                  have h1k := Lib.hid h1
                  have h2k := Lib.hid h2
                  have h4k := Lib.hid h4
                  have h5k := Lib.hid h5
                  have h6k := Lib.hid h6
                  have h3k := Lib.hid h3
                  clear h1 h2 h4 h5 h6 h3
                  go_wp2_with (first
                    | (go_at_call 37; refine (port_any _ _).mono ?_; rintro e w' ⟨rfl, rfl⟩; first | rw [h1k.out] | rw [h2k.out] | rw [h4k.out] | rw [h5k.out] | rw [h6k.out] | rw [h3k.out])
                    | (go_at_call 27; refine (seq_any _ _).mono ?_; rintro e w' ⟨rfl, rfl⟩; first | rw [h1k.out] | rw [h2k.out] | rw [h4k.out] | rw [h5k.out] | rw [h6k.out] | rw [h3k.out])
                    | (go_at_call 38; refine (in_any _ _ _ _).mono ?_; rintro e w' ⟨rfl, rfl⟩; first | rw [h1k.out] | rw [h2k.out] | rw [h4k.out] | rw [h5k.out] | rw [h6k.out] | rw [h3k.out]))
                  all_goals
                    go_ret
                    refine ⟨ret_b ?_, HS.out.1⟩
                    have hs : ({ data := b.toArray } : ByteArray).size = b.length := rfl
                    first
                    | (symm; exact decide_eq_false (fun h => by have h' := h.1; unfold tcpA at h'; omega))
                    | (symm; exact decide_eq_false (fun h => by have h' := h.2.1; omega))
                    | (symm; exact decide_eq_true ⟨by unfold tcpA; omega, by omega, HQ.out⟩)
                    | (refine Bool.eq_iff_iff.mpr ?_; simp only [decide_eq_true_eq]; exact ⟨fun h => ⟨by unfold tcpA; omega, by omega, HQ.out⟩, fun h => by have h' := h.1; have h'' := h.2.1; unfold tcpA at h'; omega⟩)

                · have h1q := in_of h1
                  have h2q := in_of h2
                  have h4q := goes_of h4
                  have h5q := goes_of h5
                  have h6q := in_of h6
                  have h3q := in_of h3
                  have h1k := Lib.hid h1
                  have h2k := Lib.hid h2
                  have h4k := Lib.hid h4
                  have h5k := Lib.hid h5
                  have h6k := Lib.hid h6
                  have h3k := Lib.hid h3
                  clear h1 h2 h4 h5 h6 h3
                  go_wp2_with (first
                    | (go_at_call 37; refine (port_any _ _).mono ?_; rintro e w' ⟨rfl, rfl⟩; first | rw [h1k.out] | rw [h2k.out] | rw [h4k.out] | rw [h5k.out] | rw [h6k.out] | rw [h3k.out])
                    | (go_at_call 27; refine (seq_any _ _).mono ?_; rintro e w' ⟨rfl, rfl⟩; first | rw [h1k.out] | rw [h2k.out] | rw [h4k.out] | rw [h5k.out] | rw [h6k.out] | rw [h3k.out])
                    | (go_at_call 38; refine (in_any _ _ _ _).mono ?_; rintro e w' ⟨rfl, rfl⟩; first | rw [h1k.out] | rw [h2k.out] | rw [h4k.out] | rw [h5k.out] | rw [h6k.out] | rw [h3k.out]))
                  all_goals
                    go_ret
                    refine ⟨ret_b ?_, HS.out.1⟩
                    have hs : ({ data := b.toArray } : ByteArray).size = b.length := rfl
                    first
                    | (symm; exact decide_eq_false (fun h => by have h' := h.1; unfold tcpA at h'; omega))
                    | (symm; exact decide_eq_false (fun h => by have h' := h.2.1; omega))
                    | (symm; exact decide_eq_true ⟨by unfold tcpA; omega, by omega, HQ.out⟩)
                    | (refine Bool.eq_iff_iff.mpr ?_; simp only [decide_eq_true_eq]; exact ⟨fun h => ⟨by unfold tcpA; omega, by omega, HQ.out⟩, fun h => by have h' := h.1; have h'' := h.2.1; unfold tcpA at h'; omega⟩)


end Go.Proofs.Ythfhffcimjolgaa
