/- Whether a fragment is right: the program and the model. -/
import Derived.Test.YtaigdimicnlfdaaFg
import Derived.IntWalk
namespace Go.Proofs.Ytaigdimicnlfdaa
open Go.RowKit

def frP (f : Int) (m : Bool) (d : List UInt8) : Prop := 0 ≤ f ∧ f ≤ 600 ∧ 1 ≤ d.length ∧ d.length ≤ 300 ∧ (m = false ∨ d.length % 8 = 0)
instance (f : Int) (m : Bool) (d : List UInt8) : Decidable (frP f m d) := by unfold frP; infer_instance
theorem fr_no {f : Int} {m : Bool} {d : List UInt8} (h : ¬ frP f m d) : false = decide (frP f m d) := (decide_eq_false h).symm
theorem fr_yes {f : Int} {m : Bool} {d : List UInt8} (h : frP f m d) : true = decide (frP f m d) := (decide_eq_true h).symm

set_option maxRecDepth 100000 in
theorem units_any (n : Int) (w : World) (h0 : 0 ≤ n) (h1 : n ≤ 1000000000) : Calls Try.prog 19 #[.int .i64 n] w fun e w' => e = .returned (.bool (decide (n % 8 = 0))) ∧ w = w' := by
  by_cases h : n % 8 = 0
  · rw [decide_eq_true h]
    have hb : (n % 8 == 0) = true := by simpa using h
    have H := Lib.hid h
    clear h
    go_enter Try.func19, Try.ntmps19
    go_wp2_with fail
    go_ret
    exact ⟨rfl, rfl⟩
  · rw [decide_eq_false h]
    have hb : (n % 8 == 0) = false := by simpa using h
    have H := Lib.hid h
    clear h
    go_enter Try.func19, Try.ntmps19
    go_wp2_with fail
    go_ret
    exact ⟨rfl, rfl⟩

set_option maxRecDepth 100000 in
set_option maxHeartbeats 1000000 in
theorem fr_I (f : Int) (m : Bool) (d : List UInt8) (w : World) (hd : d.length ≤ 9223372036854775807) : Calls Try.prog 11 #[.agg #[.int .i64 f, .bool m, .string ⟨d.toArray⟩]] w fun e w' => e = .returned (.bool (decide (frP f m d))) ∧ w.grownBy w' none := by
  by_cases g0 : f < 0
  · go_enter Try.func11, Try.ntmps11
    go_wp2_with fail
    go_ret
    exact ⟨ret_b (fr_no (by unfold frP; omega)), World.grownBy_alloc _ _ _⟩
  · by_cases g1 : 600 < f
    · go_enter Try.func11, Try.ntmps11
      go_wp2_with fail
      go_ret
      exact ⟨ret_b (fr_no (by unfold frP; omega)), World.grownBy_alloc _ _ _⟩
    · by_cases g2 : d.length < 1
      · go_enter Try.func11, Try.ntmps11
        go_wp2_with fail
        go_ret
        exact ⟨ret_b (fr_no (by unfold frP; omega)), World.grownBy_alloc _ _ _⟩
      · by_cases g3 : 300 < d.length
        · go_enter Try.func11, Try.ntmps11
          go_wp2_with fail
          go_ret
          exact ⟨ret_b (fr_no (by unfold frP; omega)), World.grownBy_alloc _ _ _⟩
        · cases m
          · go_enter Try.func11, Try.ntmps11
            go_wp2_with fail
            go_ret
            exact ⟨ret_b (fr_yes (by exact ⟨by omega, by omega, by omega, by omega, .inl rfl⟩)), World.grownBy_alloc _ _ _⟩
          · have HG := Lib.hid (World.grownBy_alloc w (.cells #[.int .i64 f, .bool true, .string ⟨d.toArray⟩] 30) none)
            go_enter Try.func11, Try.ntmps11
            go_wp2_with fail
            refine (units_any _ _ (by omega) (by omega)).mono ?_
            rintro e w2 ⟨rfl, rfl⟩
            by_cases h8 : d.length % 8 = 0
            · have h8i : ((d.length : Int) % 8 = 0) := by omega
              rw [decide_eq_true h8i]
              have H8 := Lib.hid h8
              clear h8 h8i
              go_wp2_with fail
              go_ret
              exact ⟨ret_b (fr_yes ⟨by omega, by omega, by omega, by omega, .inr H8.out⟩), HG.out⟩
            · have h8i : ¬ ((d.length : Int) % 8 = 0) := by omega
              rw [decide_eq_false h8i]
              have H8 := Lib.hid h8
              clear h8 h8i
              go_wp2_with fail
              go_ret
              exact ⟨ret_b (fr_no (fun h => by have h5 := h.2.2.2.2; exact h5.elim (fun e => by cases e) H8.out)), HG.out⟩

set_option maxRecDepth 100000 in
set_option maxHeartbeats 1000000 in
theorem fr_S (f : Int) (m : Bool) (d : List UInt8) (w : World) (hd : d.length ≤ 9223372036854775807) : Calls Try.prog 12 #[.agg #[.int .i64 f, .bool m, .string ⟨d.toArray⟩]] w fun e w' => e = .returned (.bool (decide (frP f m d))) ∧ w.grownBy w' none := by
  cases g1 : inB f 0 600
  · have G1 := Lib.hid g1
    have g1 := in_not g1
    go_enter Try.func12, Try.ntmps12
    go_wp2_with (go_at_call 20; refine (in_any _ _ _ _).mono ?_; rintro e w2 ⟨rfl, rfl⟩; first | rw [G1.out])
    go_ret
    exact ⟨ret_b (fr_no (by unfold frP; omega)), World.grownBy_alloc _ _ _⟩
  · have G1 := Lib.hid g1
    have g1 := in_of g1
    cases g2 : inB (d.length : Int) 1 300
    · have G2 := Lib.hid g2
      have g2 := in_not g2
      go_enter Try.func12, Try.ntmps12
      go_wp2_with (go_at_call 20; refine (in_any _ _ _ _).mono ?_; rintro e w2 ⟨rfl, rfl⟩; first | rw [G1.out] | rw [G2.out])
      go_ret
      exact ⟨ret_b (fr_no (by unfold frP; omega)), World.grownBy_alloc _ _ _⟩
    · have G2 := Lib.hid g2
      have g2 := in_of g2
      cases m
      · go_enter Try.func12, Try.ntmps12
        go_wp2_with (go_at_call 20; refine (in_any _ _ _ _).mono ?_; rintro e w2 ⟨rfl, rfl⟩; first | rw [G1.out] | rw [G2.out])
        go_ret
        exact ⟨ret_b (fr_yes (by exact ⟨by omega, by omega, by omega, by omega, .inl rfl⟩)), World.grownBy_alloc _ _ _⟩
      · by_cases h8 : d.length % 8 = 0
        · have h8b : ((d.length : Int) % 8 == 0) = true := by simp; omega
          have H8 := Lib.hid h8
          clear h8
          go_enter Try.func12, Try.ntmps12
          go_wp2_with (go_at_call 20; refine (in_any _ _ _ _).mono ?_; rintro e w2 ⟨rfl, rfl⟩; first | rw [G1.out] | rw [G2.out])
          go_ret
          exact ⟨ret_b (fr_yes (by exact ⟨by omega, by omega, by omega, by omega, .inr H8.out⟩)), World.grownBy_alloc _ _ _⟩
        · have h8b : ((d.length : Int) % 8 == 0) = false := by simp; omega
          have H8 := Lib.hid h8
          clear h8
          go_enter Try.func12, Try.ntmps12
          go_wp2_with (go_at_call 20; refine (in_any _ _ _ _).mono ?_; rintro e w2 ⟨rfl, rfl⟩; first | rw [G1.out] | rw [G2.out])
          go_ret
          exact ⟨ret_b (fr_no (by exact fun h => by have h5 := h.2.2.2.2; exact h5.elim (fun e => by cases e) H8.out)), World.grownBy_alloc _ _ _⟩

end Go.Proofs.Ytaigdimicnlfdaa
