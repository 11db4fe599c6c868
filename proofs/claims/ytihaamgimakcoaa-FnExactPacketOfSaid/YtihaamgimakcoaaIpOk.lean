/- Which packets are right: the program's own test and the model's, over every packet. -/
import Derived.Test.YtihaamgimakcoaaFrmOk
namespace Go.Proofs.Ytihaamgimakcoaa
open Go.RowKit

def ipOk (s d t p i : Int) (b : List UInt8) : Prop := 0 ≤ s ∧ s < 4294967296 ∧ 0 ≤ d ∧ d < 4294967296 ∧ 0 ≤ t ∧ t ≤ 255 ∧ 0 ≤ p ∧ p ≤ 255 ∧ 0 ≤ i ∧ i ≤ 65535 ∧ b.length ≤ 362
instance (s d t p i : Int) (b : List UInt8) : Decidable (ipOk s d t p i b) := by unfold ipOk; infer_instance
abbrev ipV (s d t p i : Int) (b : List UInt8) : Value := .agg #[.int .i64 s, .int .i64 d, .int .i64 t, .int .i64 p, .int .i64 i, .string ⟨b.toArray⟩]

set_option maxRecDepth 100000 in
theorem byteOk_any (n : Int) (w : World) : Calls Try.prog 92 #[.int .i64 n] w fun e w' => e = .returned (.bool (inB n 0 255)) ∧ w = w' := by
  by_cases h1 : 0 ≤ n
  · by_cases h2 : n ≤ 255
    all_goals
      go_enter Try.func92, Try.ntmps92
      go_wp2
      go_ret
      exact ⟨ret_b (by unfold inB; simp; omega), rfl⟩
  · go_enter Try.func92, Try.ntmps92
    go_wp2
    go_ret
    exact ⟨ret_b (by unfold inB; simp; omega), rfl⟩

set_option maxRecDepth 100000 in
set_option maxHeartbeats 400000 in
theorem ip_ok_spec (s d t p i : Int) (b : List UInt8) (w : World) : Calls Try.prog 99 #[ipV s d t p i b] w fun e w' => e = .returned (.bool (decide (ipOk s d t p i b))) ∧ w.grownBy w' none := by
  cases h1 : goesB s
  · have h1q := goes_not h1
    have h1k := Lib.hid h1
    clear h1
    go_enter Try.func99, Try.ntmps99
    go_wp2_with (first
      | (go_at_call 28; refine (seq_any _ _).mono ?_; rintro e w' ⟨rfl, rfl⟩; first | rw [h1k.out])
      | (go_at_call 27; refine (in_any _ _ _ _).mono ?_; rintro e w' ⟨rfl, rfl⟩; first | rw [h1k.out]))
    all_goals
      go_ret
      refine ⟨ret_b ?_, World.grownBy_alloc _ _ _⟩
      first
      | (symm; exact decide_eq_true (by unfold ipOk; omega))
      | (symm; exact decide_eq_false (by unfold ipOk; omega))
      | (have hs : ({ data := b.toArray } : ByteArray).size = b.length := rfl; refine Bool.eq_iff_iff.mpr ?_; simp only [decide_eq_true_eq]; unfold ipOk; omega)
  · cases h2 : goesB d
    · have h1q := goes_of h1
      have h2q := goes_not h2
      have h1k := Lib.hid h1
      have h2k := Lib.hid h2
      clear h1 h2
      go_enter Try.func99, Try.ntmps99
      go_wp2_with (first
        | (go_at_call 28; refine (seq_any _ _).mono ?_; rintro e w' ⟨rfl, rfl⟩; first | rw [h1k.out] | rw [h2k.out])
        | (go_at_call 27; refine (in_any _ _ _ _).mono ?_; rintro e w' ⟨rfl, rfl⟩; first | rw [h1k.out] | rw [h2k.out]))
      all_goals
        go_ret
        refine ⟨ret_b ?_, World.grownBy_alloc _ _ _⟩
        first
        | (symm; exact decide_eq_true (by unfold ipOk; omega))
        | (symm; exact decide_eq_false (by unfold ipOk; omega))
        | (have hs : ({ data := b.toArray } : ByteArray).size = b.length := rfl; refine Bool.eq_iff_iff.mpr ?_; simp only [decide_eq_true_eq]; unfold ipOk; omega)
    · cases h3 : inB t 0 255
      · have h1q := goes_of h1
        have h2q := goes_of h2
        have h3q := in_not h3
        have h1k := Lib.hid h1
        have h2k := Lib.hid h2
        have h3k := Lib.hid h3
        clear h1 h2 h3
        go_enter Try.func99, Try.ntmps99
        go_wp2_with (first
          | (go_at_call 28; refine (seq_any _ _).mono ?_; rintro e w' ⟨rfl, rfl⟩; first | rw [h1k.out] | rw [h2k.out] | rw [h3k.out])
          | (go_at_call 27; refine (in_any _ _ _ _).mono ?_; rintro e w' ⟨rfl, rfl⟩; first | rw [h1k.out] | rw [h2k.out] | rw [h3k.out]))
        all_goals
          go_ret
          refine ⟨ret_b ?_, World.grownBy_alloc _ _ _⟩
          first
          | (symm; exact decide_eq_true (by unfold ipOk; omega))
          | (symm; exact decide_eq_false (by unfold ipOk; omega))
          | (have hs : ({ data := b.toArray } : ByteArray).size = b.length := rfl; refine Bool.eq_iff_iff.mpr ?_; simp only [decide_eq_true_eq]; unfold ipOk; omega)
      · cases h4 : inB p 0 255
        · have h1q := goes_of h1
          have h2q := goes_of h2
          have h3q := in_of h3
          have h4q := in_not h4
          have h1k := Lib.hid h1
          have h2k := Lib.hid h2
          have h3k := Lib.hid h3
          have h4k := Lib.hid h4
          clear h1 h2 h3 h4
          go_enter Try.func99, Try.ntmps99
          go_wp2_with (first
            | (go_at_call 28; refine (seq_any _ _).mono ?_; rintro e w' ⟨rfl, rfl⟩; first | rw [h1k.out] | rw [h2k.out] | rw [h3k.out] | rw [h4k.out])
            | (go_at_call 27; refine (in_any _ _ _ _).mono ?_; rintro e w' ⟨rfl, rfl⟩; first | rw [h1k.out] | rw [h2k.out] | rw [h3k.out] | rw [h4k.out]))
          all_goals
            go_ret
            refine ⟨ret_b ?_, World.grownBy_alloc _ _ _⟩
            first
            | (symm; exact decide_eq_true (by unfold ipOk; omega))
            | (symm; exact decide_eq_false (by unfold ipOk; omega))
            | (have hs : ({ data := b.toArray } : ByteArray).size = b.length := rfl; refine Bool.eq_iff_iff.mpr ?_; simp only [decide_eq_true_eq]; unfold ipOk; omega)
        · cases h5 : inB i 0 65535
          · have h1q := goes_of h1
            have h2q := goes_of h2
            have h3q := in_of h3
            have h4q := in_of h4
            have h5q := in_not h5
            have h1k := Lib.hid h1
            have h2k := Lib.hid h2
            have h3k := Lib.hid h3
            have h4k := Lib.hid h4
            have h5k := Lib.hid h5
            clear h1 h2 h3 h4 h5
            go_enter Try.func99, Try.ntmps99
            go_wp2_with (first
              | (go_at_call 28; refine (seq_any _ _).mono ?_; rintro e w' ⟨rfl, rfl⟩; first | rw [h1k.out] | rw [h2k.out] | rw [h3k.out] | rw [h4k.out] | rw [h5k.out])
              | (go_at_call 27; refine (in_any _ _ _ _).mono ?_; rintro e w' ⟨rfl, rfl⟩; first | rw [h1k.out] | rw [h2k.out] | rw [h3k.out] | rw [h4k.out] | rw [h5k.out]))
            all_goals
              go_ret
              refine ⟨ret_b ?_, World.grownBy_alloc _ _ _⟩
              first
              | (symm; exact decide_eq_true (by unfold ipOk; omega))
              | (symm; exact decide_eq_false (by unfold ipOk; omega))
              | (have hs : ({ data := b.toArray } : ByteArray).size = b.length := rfl; refine Bool.eq_iff_iff.mpr ?_; simp only [decide_eq_true_eq]; unfold ipOk; omega)
          · have h1q := goes_of h1
            have h2q := goes_of h2
            have h3q := in_of h3
            have h4q := in_of h4
            have h5q := in_of h5
            have h1k := Lib.hid h1
            have h2k := Lib.hid h2
            have h3k := Lib.hid h3
            have h4k := Lib.hid h4
            have h5k := Lib.hid h5
            clear h1 h2 h3 h4 h5
            go_enter Try.func99, Try.ntmps99
            go_wp2_with (first
              | (go_at_call 28; refine (seq_any _ _).mono ?_; rintro e w' ⟨rfl, rfl⟩; first | rw [h1k.out] | rw [h2k.out] | rw [h3k.out] | rw [h4k.out] | rw [h5k.out])
              | (go_at_call 27; refine (in_any _ _ _ _).mono ?_; rintro e w' ⟨rfl, rfl⟩; first | rw [h1k.out] | rw [h2k.out] | rw [h3k.out] | rw [h4k.out] | rw [h5k.out]))
            all_goals
              go_ret
              refine ⟨ret_b ?_, World.grownBy_alloc _ _ _⟩
              first
              | (symm; exact decide_eq_true (by unfold ipOk; omega))
              | (symm; exact decide_eq_false (by unfold ipOk; omega))
              | (have hs : ({ data := b.toArray } : ByteArray).size = b.length := rfl; refine Bool.eq_iff_iff.mpr ?_; simp only [decide_eq_true_eq]; unfold ipOk; omega)

set_option maxRecDepth 100000 in
set_option maxHeartbeats 400000 in
theorem ip_ok_impl (s d t p i : Int) (b : List UInt8) (w : World) : Calls Try.prog 65 #[ipV s d t p i b] w fun e w' => e = .returned (.bool (decide (ipOk s d t p i b))) ∧ w.grownBy w' none := by
  cases h1 : goesB s
  · have h1q := goes_not h1
    have h1k := Lib.hid h1
    clear h1
    go_enter Try.func65, Try.ntmps65
    go_wp2_with (first
      | (go_at_call 58; refine (goes_any _ _).mono ?_; rintro e w' ⟨rfl, rfl⟩; first | rw [h1k.out])
      | (go_at_call 92; refine (byteOk_any _ _).mono ?_; rintro e w' ⟨rfl, rfl⟩; first | rw [h1k.out])
      | (go_at_call 86; refine (wordOk_any _ _).mono ?_; rintro e w' ⟨rfl, rfl⟩; first | rw [h1k.out]))
    all_goals
      go_ret
      refine ⟨ret_b ?_, World.grownBy_alloc _ _ _⟩
      first
      | (symm; exact decide_eq_true (by unfold ipOk; omega))
      | (symm; exact decide_eq_false (by unfold ipOk; omega))
      | (have hs : ({ data := b.toArray } : ByteArray).size = b.length := rfl; refine Bool.eq_iff_iff.mpr ?_; simp only [decide_eq_true_eq]; unfold ipOk; omega)
  · cases h2 : goesB d
    · have h1q := goes_of h1
      have h2q := goes_not h2
      have h1k := Lib.hid h1
      have h2k := Lib.hid h2
      clear h1 h2
      go_enter Try.func65, Try.ntmps65
      go_wp2_with (first
        | (go_at_call 58; refine (goes_any _ _).mono ?_; rintro e w' ⟨rfl, rfl⟩; first | rw [h1k.out] | rw [h2k.out])
        | (go_at_call 92; refine (byteOk_any _ _).mono ?_; rintro e w' ⟨rfl, rfl⟩; first | rw [h1k.out] | rw [h2k.out])
        | (go_at_call 86; refine (wordOk_any _ _).mono ?_; rintro e w' ⟨rfl, rfl⟩; first | rw [h1k.out] | rw [h2k.out]))
      all_goals
        go_ret
        refine ⟨ret_b ?_, World.grownBy_alloc _ _ _⟩
        first
        | (symm; exact decide_eq_true (by unfold ipOk; omega))
        | (symm; exact decide_eq_false (by unfold ipOk; omega))
        | (have hs : ({ data := b.toArray } : ByteArray).size = b.length := rfl; refine Bool.eq_iff_iff.mpr ?_; simp only [decide_eq_true_eq]; unfold ipOk; omega)
    · cases h3 : inB t 0 255
      · have h1q := goes_of h1
        have h2q := goes_of h2
        have h3q := in_not h3
        have h1k := Lib.hid h1
        have h2k := Lib.hid h2
        have h3k := Lib.hid h3
        clear h1 h2 h3
        go_enter Try.func65, Try.ntmps65
        go_wp2_with (first
          | (go_at_call 58; refine (goes_any _ _).mono ?_; rintro e w' ⟨rfl, rfl⟩; first | rw [h1k.out] | rw [h2k.out] | rw [h3k.out])
          | (go_at_call 92; refine (byteOk_any _ _).mono ?_; rintro e w' ⟨rfl, rfl⟩; first | rw [h1k.out] | rw [h2k.out] | rw [h3k.out])
          | (go_at_call 86; refine (wordOk_any _ _).mono ?_; rintro e w' ⟨rfl, rfl⟩; first | rw [h1k.out] | rw [h2k.out] | rw [h3k.out]))
        all_goals
          go_ret
          refine ⟨ret_b ?_, World.grownBy_alloc _ _ _⟩
          first
          | (symm; exact decide_eq_true (by unfold ipOk; omega))
          | (symm; exact decide_eq_false (by unfold ipOk; omega))
          | (have hs : ({ data := b.toArray } : ByteArray).size = b.length := rfl; refine Bool.eq_iff_iff.mpr ?_; simp only [decide_eq_true_eq]; unfold ipOk; omega)
      · cases h4 : inB p 0 255
        · have h1q := goes_of h1
          have h2q := goes_of h2
          have h3q := in_of h3
          have h4q := in_not h4
          have h1k := Lib.hid h1
          have h2k := Lib.hid h2
          have h3k := Lib.hid h3
          have h4k := Lib.hid h4
          clear h1 h2 h3 h4
          go_enter Try.func65, Try.ntmps65
          go_wp2_with (first
            | (go_at_call 58; refine (goes_any _ _).mono ?_; rintro e w' ⟨rfl, rfl⟩; first | rw [h1k.out] | rw [h2k.out] | rw [h3k.out] | rw [h4k.out])
            | (go_at_call 92; refine (byteOk_any _ _).mono ?_; rintro e w' ⟨rfl, rfl⟩; first | rw [h1k.out] | rw [h2k.out] | rw [h3k.out] | rw [h4k.out])
            | (go_at_call 86; refine (wordOk_any _ _).mono ?_; rintro e w' ⟨rfl, rfl⟩; first | rw [h1k.out] | rw [h2k.out] | rw [h3k.out] | rw [h4k.out]))
          all_goals
            go_ret
            refine ⟨ret_b ?_, World.grownBy_alloc _ _ _⟩
            first
            | (symm; exact decide_eq_true (by unfold ipOk; omega))
            | (symm; exact decide_eq_false (by unfold ipOk; omega))
            | (have hs : ({ data := b.toArray } : ByteArray).size = b.length := rfl; refine Bool.eq_iff_iff.mpr ?_; simp only [decide_eq_true_eq]; unfold ipOk; omega)
        · cases h5 : inB i 0 65535
          · have h1q := goes_of h1
            have h2q := goes_of h2
            have h3q := in_of h3
            have h4q := in_of h4
            have h5q := in_not h5
            have h1k := Lib.hid h1
            have h2k := Lib.hid h2
            have h3k := Lib.hid h3
            have h4k := Lib.hid h4
            have h5k := Lib.hid h5
            clear h1 h2 h3 h4 h5
            go_enter Try.func65, Try.ntmps65
            go_wp2_with (first
              | (go_at_call 58; refine (goes_any _ _).mono ?_; rintro e w' ⟨rfl, rfl⟩; first | rw [h1k.out] | rw [h2k.out] | rw [h3k.out] | rw [h4k.out] | rw [h5k.out])
              | (go_at_call 92; refine (byteOk_any _ _).mono ?_; rintro e w' ⟨rfl, rfl⟩; first | rw [h1k.out] | rw [h2k.out] | rw [h3k.out] | rw [h4k.out] | rw [h5k.out])
              | (go_at_call 86; refine (wordOk_any _ _).mono ?_; rintro e w' ⟨rfl, rfl⟩; first | rw [h1k.out] | rw [h2k.out] | rw [h3k.out] | rw [h4k.out] | rw [h5k.out]))
            all_goals
              go_ret
              refine ⟨ret_b ?_, World.grownBy_alloc _ _ _⟩
              first
              | (symm; exact decide_eq_true (by unfold ipOk; omega))
              | (symm; exact decide_eq_false (by unfold ipOk; omega))
              | (have hs : ({ data := b.toArray } : ByteArray).size = b.length := rfl; refine Bool.eq_iff_iff.mpr ?_; simp only [decide_eq_true_eq]; unfold ipOk; omega)
          · have h1q := goes_of h1
            have h2q := goes_of h2
            have h3q := in_of h3
            have h4q := in_of h4
            have h5q := in_of h5
            have h1k := Lib.hid h1
            have h2k := Lib.hid h2
            have h3k := Lib.hid h3
            have h4k := Lib.hid h4
            have h5k := Lib.hid h5
            clear h1 h2 h3 h4 h5
            go_enter Try.func65, Try.ntmps65
            go_wp2_with (first
              | (go_at_call 58; refine (goes_any _ _).mono ?_; rintro e w' ⟨rfl, rfl⟩; first | rw [h1k.out] | rw [h2k.out] | rw [h3k.out] | rw [h4k.out] | rw [h5k.out])
              | (go_at_call 92; refine (byteOk_any _ _).mono ?_; rintro e w' ⟨rfl, rfl⟩; first | rw [h1k.out] | rw [h2k.out] | rw [h3k.out] | rw [h4k.out] | rw [h5k.out])
              | (go_at_call 86; refine (wordOk_any _ _).mono ?_; rintro e w' ⟨rfl, rfl⟩; first | rw [h1k.out] | rw [h2k.out] | rw [h3k.out] | rw [h4k.out] | rw [h5k.out]))
            all_goals
              go_ret
              refine ⟨ret_b ?_, World.grownBy_alloc _ _ _⟩
              first
              | (symm; exact decide_eq_true (by unfold ipOk; omega))
              | (symm; exact decide_eq_false (by unfold ipOk; omega))
              | (have hs : ({ data := b.toArray } : ByteArray).size = b.length := rfl; refine Bool.eq_iff_iff.mpr ?_; simp only [decide_eq_true_eq]; unfold ipOk; omega)

end Go.Proofs.Ytihaamgimakcoaa
