/- Contracts of the program's own writing of a number as bytes, over every two numbers, in both orders. -/
import Derived.Test.YthfhffcimjolgaaPut
namespace Go.Proofs.Ythfhffcimjolgaa
open Go.RowKit

def octV (n : Int) : Array Value := #[.int .u8 (n % 256), .int .u8 (n / 256 % 256), .int .u8 (n / 65536 % 256), .int .u8 (n / 16777216 % 256), .int .u8 (n / 4294967296 % 256), .int .u8 (n / 1099511627776)]

set_option maxRecDepth 100000 in
set_option maxHeartbeats 1000000 in
theorem oct_any (n : Int) (w : World) (h0 : 0 ≤ n) (h1 : n < 281474976710656) : Calls Try.prog 54 #[.int .i64 n] w fun e w' => e = .returned (.agg #[.int .u8 (n % 256), .int .u8 (n / 256 % 256), .int .u8 (n / 65536 % 256), .int .u8 (n / 16777216 % 256), .int .u8 (n / 4294967296 % 256), .int .u8 (n / 1099511627776)]) ∧ w.grownBy w' none := by
  go_enter Try.func54, Try.ntmps54
  go_wp2
  refine wp_loop_rounds 7 ?_
  iterate 7 (rw [rounds_succ]; go_wp2)
  exact bodyPost_ret (v := .agg #[.int .u8 (n % 256), .int .u8 (n / 256 % 256), .int .u8 (n / 65536 % 256), .int .u8 (n / 16777216 % 256), .int .u8 (n / 4294967296 % 256), .int .u8 (n / 1099511627776)]) (by simp [results, Try.results54, go_sem]) rfl ⟨rfl, grownBy_trans (World.grownBy_alloc _ _ _) (World.grownBy_alloc _ _ _)⟩

/-- The bytes in the block that was made last, as a text. -/
theorem conv_new (w : World) (C : Array Value) (T : TypeId) (k c : Nat) (l : List UInt8) (hl : l.length = k) (h : ∀ j (hj : j < l.length), C[j]? = some (.int .u8 (l[j].toNat : Int))) :
    (convert 22 9 (.slice (some ⟨w.heap.size, 0, none⟩) k c)).run Try.prog (w.alloc (.cells C T)) = .ok (.string ⟨l.toArray⟩) (w.alloc (.cells C T)) := by
  subst hl
  refine run_convert_bytes_back _ 22 9 5 ⟨w.heap.size, 0, none⟩ c l Try.underlying22 Try.underlying5 Try.underlying9 fun j hj => ?_
  have e : ((⟨w.heap.size, 0, none⟩ : Addr).add j) = ⟨w.heap.size, j, none⟩ := by by_cases h0 : j = 0 <;> simp [Addr.add, h0]
  rw [e, World.cell?_alloc_mark]
  exact h j hj

theorem conv_at (w : World) (b : Nat) (hb : b = w.heap.size) (C : Array Value) (T : TypeId) (k c : Nat) (l : List UInt8) (hl : l.length = k) (h : ∀ j (hj : j < l.length), C[j]? = some (.int .u8 (l[j].toNat : Int))) :
    (convert 22 9 (.slice (some ⟨b, 0, none⟩) k c)).run Try.prog (w.alloc (.cells C T)) = .ok (.string ⟨l.toArray⟩) (w.alloc (.cells C T)) := by
  subst hb
  exact conv_new w C T k c l hl h

theorem octs (n : Nat) (h : n < 281474976710656) : octV (n : Int) = #[.int .u8 ((UInt8.ofNat (n % 256)).toNat : Int), .int .u8 ((UInt8.ofNat (n / 256 % 256)).toNat : Int), .int .u8 ((UInt8.ofNat (n / 65536 % 256)).toNat : Int), .int .u8 ((UInt8.ofNat (n / 16777216 % 256)).toNat : Int), .int .u8 ((UInt8.ofNat (n / 4294967296 % 256)).toNat : Int), .int .u8 ((UInt8.ofNat (n / 1099511627776 % 256)).toNat : Int)] := by
  have e : n / 1099511627776 % 256 = n / 1099511627776 := by omega
  simp [octV, e]

theorem beL_1 (n : Nat) : beL n 1 = [UInt8.ofNat (n % 256)] := by
  simp [beL]

theorem beL_2 (n : Nat) : beL n 2 = [UInt8.ofNat (n / 256 % 256), UInt8.ofNat (n % 256)] := by
  simp [beL]

theorem beL_3 (n : Nat) : beL n 3 = [UInt8.ofNat (n / 65536 % 256), UInt8.ofNat (n / 256 % 256), UInt8.ofNat (n % 256)] := by
  simp [beL, Nat.div_div_eq_div_mul]

theorem beL_4 (n : Nat) : beL n 4 = [UInt8.ofNat (n / 16777216 % 256), UInt8.ofNat (n / 65536 % 256), UInt8.ofNat (n / 256 % 256), UInt8.ofNat (n % 256)] := by
  simp [beL, Nat.div_div_eq_div_mul]

theorem beL_5 (n : Nat) : beL n 5 = [UInt8.ofNat (n / 4294967296 % 256), UInt8.ofNat (n / 16777216 % 256), UInt8.ofNat (n / 65536 % 256), UInt8.ofNat (n / 256 % 256), UInt8.ofNat (n % 256)] := by
  simp [beL, Nat.div_div_eq_div_mul]

theorem beL_6 (n : Nat) : beL n 6 = [UInt8.ofNat (n / 1099511627776 % 256), UInt8.ofNat (n / 4294967296 % 256), UInt8.ofNat (n / 16777216 % 256), UInt8.ofNat (n / 65536 % 256), UInt8.ofNat (n / 256 % 256), UInt8.ofNat (n % 256)] := by
  simp [beL, Nat.div_div_eq_div_mul]

set_option maxRecDepth 100000 in
set_option maxHeartbeats 1000000 in
theorem put_be_1 (m : Nat) (w : World) (hm : m < 256 ^ 1) : Calls Try.prog 42 #[.int .i64 m, .int .i64 1] w (StrPost w (beL m 1)) := by
    have hd : decide (putOk (m : Int) 1) = true := decide_eq_true ⟨by omega, by omega, by omega, by simp; omega⟩
    simp at hm
    go_enter Try.func42, Try.ntmps42
    go_wp2_with (first | (go_at_call 53; refine (fits_any _ _ _).mono ?_; rintro e w' ⟨rfl, rfl⟩))
    refine (oct_any _ _ (by omega) (by omega)).mono ?_
    rintro e w1 ⟨rfl, hg⟩
    have HG := Lib.hid hg
    clear hg
    have hcv := conv_at (w1.alloc (.cells #[Value.int .u8 ((m : Int) % 256), Value.int .u8 ((m : Int) / 256 % 256), Value.int .u8 ((m : Int) / 65536 % 256), Value.int .u8 ((m : Int) / 16777216 % 256), Value.int .u8 ((m : Int) / 4294967296 % 256), Value.int .u8 ((m : Int) / 1099511627776)] 94)) (w1.heap.size + 1) (by simp) #[Value.int .u8 ((m : Int) % 256), Value.int .u8 0, Value.int .u8 0, Value.int .u8 0, Value.int .u8 0, Value.int .u8 0] 94 1 6 [UInt8.ofNat (m % 256)] rfl (fun j hj => by
      have hj' : j = 0 := by simp at hj; omega
      rcases hj' with rfl <;> simp)
    go_wp2_with fail
    refine wp_loop_rounds 2 ?_
    iterate 2 (rw [rounds_succ]; go_wp2_with fail)
    go_ret
    exact ⟨ret_s (by rw [beL_1]), grownBy_trans HG.out (grownBy_trans (World.grownBy_alloc _ _ _) (World.grownBy_alloc _ _ _))⟩

set_option maxRecDepth 100000 in
set_option maxHeartbeats 1000000 in
theorem put_be_2 (m : Nat) (w : World) (hm : m < 256 ^ 2) : Calls Try.prog 42 #[.int .i64 m, .int .i64 2] w (StrPost w (beL m 2)) := by
    have hd : decide (putOk (m : Int) 2) = true := decide_eq_true ⟨by omega, by omega, by omega, by simp; omega⟩
    simp at hm
    go_enter Try.func42, Try.ntmps42
    go_wp2_with (first | (go_at_call 53; refine (fits_any _ _ _).mono ?_; rintro e w' ⟨rfl, rfl⟩))
    refine (oct_any _ _ (by omega) (by omega)).mono ?_
    rintro e w1 ⟨rfl, hg⟩
    have HG := Lib.hid hg
    clear hg
    have hcv := conv_at (w1.alloc (.cells #[Value.int .u8 ((m : Int) % 256), Value.int .u8 ((m : Int) / 256 % 256), Value.int .u8 ((m : Int) / 65536 % 256), Value.int .u8 ((m : Int) / 16777216 % 256), Value.int .u8 ((m : Int) / 4294967296 % 256), Value.int .u8 ((m : Int) / 1099511627776)] 94)) (w1.heap.size + 1) (by simp) #[Value.int .u8 ((m : Int) / 256 % 256), Value.int .u8 ((m : Int) % 256), Value.int .u8 0, Value.int .u8 0, Value.int .u8 0, Value.int .u8 0] 94 2 6 [UInt8.ofNat (m / 256 % 256), UInt8.ofNat (m % 256)] rfl (fun j hj => by
      have hj' : j = 0 ∨ j = 1 := by simp at hj; omega
      rcases hj' with rfl | rfl <;> simp)
    go_wp2_with fail
    refine wp_loop_rounds 3 ?_
    iterate 3 (rw [rounds_succ]; go_wp2_with fail)
    go_ret
    exact ⟨ret_s (by rw [beL_2]), grownBy_trans HG.out (grownBy_trans (World.grownBy_alloc _ _ _) (World.grownBy_alloc _ _ _))⟩

set_option maxRecDepth 100000 in
set_option maxHeartbeats 1000000 in
theorem put_be_3 (m : Nat) (w : World) (hm : m < 256 ^ 3) : Calls Try.prog 42 #[.int .i64 m, .int .i64 3] w (StrPost w (beL m 3)) := by
    have hd : decide (putOk (m : Int) 3) = true := decide_eq_true ⟨by omega, by omega, by omega, by simp; omega⟩
    simp at hm
    go_enter Try.func42, Try.ntmps42
    go_wp2_with (first | (go_at_call 53; refine (fits_any _ _ _).mono ?_; rintro e w' ⟨rfl, rfl⟩))
    refine (oct_any _ _ (by omega) (by omega)).mono ?_
    rintro e w1 ⟨rfl, hg⟩
    have HG := Lib.hid hg
    clear hg
    have hcv := conv_at (w1.alloc (.cells #[Value.int .u8 ((m : Int) % 256), Value.int .u8 ((m : Int) / 256 % 256), Value.int .u8 ((m : Int) / 65536 % 256), Value.int .u8 ((m : Int) / 16777216 % 256), Value.int .u8 ((m : Int) / 4294967296 % 256), Value.int .u8 ((m : Int) / 1099511627776)] 94)) (w1.heap.size + 1) (by simp) #[Value.int .u8 ((m : Int) / 65536 % 256), Value.int .u8 ((m : Int) / 256 % 256), Value.int .u8 ((m : Int) % 256), Value.int .u8 0, Value.int .u8 0, Value.int .u8 0] 94 3 6 [UInt8.ofNat (m / 65536 % 256), UInt8.ofNat (m / 256 % 256), UInt8.ofNat (m % 256)] rfl (fun j hj => by
      have hj' : j = 0 ∨ j = 1 ∨ j = 2 := by simp at hj; omega
      rcases hj' with rfl | rfl | rfl <;> simp)
    go_wp2_with fail
    refine wp_loop_rounds 4 ?_
    iterate 4 (rw [rounds_succ]; go_wp2_with fail)
    go_ret
    exact ⟨ret_s (by rw [beL_3]), grownBy_trans HG.out (grownBy_trans (World.grownBy_alloc _ _ _) (World.grownBy_alloc _ _ _))⟩

set_option maxRecDepth 100000 in
set_option maxHeartbeats 1000000 in
theorem put_be_4 (m : Nat) (w : World) (hm : m < 256 ^ 4) : Calls Try.prog 42 #[.int .i64 m, .int .i64 4] w (StrPost w (beL m 4)) := by
    have hd : decide (putOk (m : Int) 4) = true := decide_eq_true ⟨by omega, by omega, by omega, by simp; omega⟩
    simp at hm
    go_enter Try.func42, Try.ntmps42
    go_wp2_with (first | (go_at_call 53; refine (fits_any _ _ _).mono ?_; rintro e w' ⟨rfl, rfl⟩))
    refine (oct_any _ _ (by omega) (by omega)).mono ?_
    rintro e w1 ⟨rfl, hg⟩
    have HG := Lib.hid hg
    clear hg
    have hcv := conv_at (w1.alloc (.cells #[Value.int .u8 ((m : Int) % 256), Value.int .u8 ((m : Int) / 256 % 256), Value.int .u8 ((m : Int) / 65536 % 256), Value.int .u8 ((m : Int) / 16777216 % 256), Value.int .u8 ((m : Int) / 4294967296 % 256), Value.int .u8 ((m : Int) / 1099511627776)] 94)) (w1.heap.size + 1) (by simp) #[Value.int .u8 ((m : Int) / 16777216 % 256), Value.int .u8 ((m : Int) / 65536 % 256), Value.int .u8 ((m : Int) / 256 % 256), Value.int .u8 ((m : Int) % 256), Value.int .u8 0, Value.int .u8 0] 94 4 6 [UInt8.ofNat (m / 16777216 % 256), UInt8.ofNat (m / 65536 % 256), UInt8.ofNat (m / 256 % 256), UInt8.ofNat (m % 256)] rfl (fun j hj => by
      have hj' : j = 0 ∨ j = 1 ∨ j = 2 ∨ j = 3 := by simp at hj; omega
      rcases hj' with rfl | rfl | rfl | rfl <;> simp)
    go_wp2_with fail
    refine wp_loop_rounds 5 ?_
    iterate 5 (rw [rounds_succ]; go_wp2_with fail)
    go_ret
    exact ⟨ret_s (by rw [beL_4]), grownBy_trans HG.out (grownBy_trans (World.grownBy_alloc _ _ _) (World.grownBy_alloc _ _ _))⟩

set_option maxRecDepth 100000 in
set_option maxHeartbeats 1000000 in
theorem put_be_5 (m : Nat) (w : World) (hm : m < 256 ^ 5) : Calls Try.prog 42 #[.int .i64 m, .int .i64 5] w (StrPost w (beL m 5)) := by
    have hd : decide (putOk (m : Int) 5) = true := decide_eq_true ⟨by omega, by omega, by omega, by simp; omega⟩
    simp at hm
    go_enter Try.func42, Try.ntmps42
    go_wp2_with (first | (go_at_call 53; refine (fits_any _ _ _).mono ?_; rintro e w' ⟨rfl, rfl⟩))
    refine (oct_any _ _ (by omega) (by omega)).mono ?_
    rintro e w1 ⟨rfl, hg⟩
    have HG := Lib.hid hg
    clear hg
    have hcv := conv_at (w1.alloc (.cells #[Value.int .u8 ((m : Int) % 256), Value.int .u8 ((m : Int) / 256 % 256), Value.int .u8 ((m : Int) / 65536 % 256), Value.int .u8 ((m : Int) / 16777216 % 256), Value.int .u8 ((m : Int) / 4294967296 % 256), Value.int .u8 ((m : Int) / 1099511627776)] 94)) (w1.heap.size + 1) (by simp) #[Value.int .u8 ((m : Int) / 4294967296 % 256), Value.int .u8 ((m : Int) / 16777216 % 256), Value.int .u8 ((m : Int) / 65536 % 256), Value.int .u8 ((m : Int) / 256 % 256), Value.int .u8 ((m : Int) % 256), Value.int .u8 0] 94 5 6 [UInt8.ofNat (m / 4294967296 % 256), UInt8.ofNat (m / 16777216 % 256), UInt8.ofNat (m / 65536 % 256), UInt8.ofNat (m / 256 % 256), UInt8.ofNat (m % 256)] rfl (fun j hj => by
      have hj' : j = 0 ∨ j = 1 ∨ j = 2 ∨ j = 3 ∨ j = 4 := by simp at hj; omega
      rcases hj' with rfl | rfl | rfl | rfl | rfl <;> simp)
    go_wp2_with fail
    refine wp_loop_rounds 6 ?_
    iterate 6 (rw [rounds_succ]; go_wp2_with fail)
    go_ret
    exact ⟨ret_s (by rw [beL_5]), grownBy_trans HG.out (grownBy_trans (World.grownBy_alloc _ _ _) (World.grownBy_alloc _ _ _))⟩

set_option maxRecDepth 100000 in
set_option maxHeartbeats 1000000 in
theorem put_be_6 (m : Nat) (w : World) (hm : m < 256 ^ 6) : Calls Try.prog 42 #[.int .i64 m, .int .i64 6] w (StrPost w (beL m 6)) := by
    have hd : decide (putOk (m : Int) 6) = true := decide_eq_true ⟨by omega, by omega, by omega, by simp; omega⟩
    simp at hm
    go_enter Try.func42, Try.ntmps42
    go_wp2_with (first | (go_at_call 53; refine (fits_any _ _ _).mono ?_; rintro e w' ⟨rfl, rfl⟩))
    refine (oct_any _ _ (by omega) (by omega)).mono ?_
    rintro e w1 ⟨rfl, hg⟩
    have HG := Lib.hid hg
    clear hg
    have hcv := conv_at (w1.alloc (.cells #[Value.int .u8 ((m : Int) % 256), Value.int .u8 ((m : Int) / 256 % 256), Value.int .u8 ((m : Int) / 65536 % 256), Value.int .u8 ((m : Int) / 16777216 % 256), Value.int .u8 ((m : Int) / 4294967296 % 256), Value.int .u8 ((m : Int) / 1099511627776)] 94)) (w1.heap.size + 1) (by simp) #[Value.int .u8 ((m : Int) / 1099511627776), Value.int .u8 ((m : Int) / 4294967296 % 256), Value.int .u8 ((m : Int) / 16777216 % 256), Value.int .u8 ((m : Int) / 65536 % 256), Value.int .u8 ((m : Int) / 256 % 256), Value.int .u8 ((m : Int) % 256)] 94 6 6 [UInt8.ofNat (m / 1099511627776 % 256), UInt8.ofNat (m / 4294967296 % 256), UInt8.ofNat (m / 16777216 % 256), UInt8.ofNat (m / 65536 % 256), UInt8.ofNat (m / 256 % 256), UInt8.ofNat (m % 256)] rfl (fun j hj => by
      have hj' : j = 0 ∨ j = 1 ∨ j = 2 ∨ j = 3 ∨ j = 4 ∨ j = 5 := by simp at hj; omega
      rcases hj' with rfl | rfl | rfl | rfl | rfl | rfl <;> simp <;> omega)
    go_wp2_with fail
    refine wp_loop_rounds 7 ?_
    iterate 7 (rw [rounds_succ]; go_wp2_with fail)
    go_ret
    exact ⟨ret_s (by rw [beL_6]), grownBy_trans HG.out (grownBy_trans (World.grownBy_alloc _ _ _) (World.grownBy_alloc _ _ _))⟩

set_option maxRecDepth 100000 in
theorem put_be_impl (n k : Int) (w : World) : Calls Try.prog 42 #[.int .i64 n, .int .i64 k] w (StrPost w (putL n k)) := by
  by_cases hok : putOk n k
  · rw [putL_ok hok]
    obtain ⟨k1, k6, n0, n1⟩ := hok
    obtain ⟨m, rfl⟩ := Int.eq_ofNat_of_zero_le n0
    have : k = 1 ∨ k = 2 ∨ k = 3 ∨ k = 4 ∨ k = 5 ∨ k = 6 := by omega
    rcases this with rfl | rfl | rfl | rfl | rfl | rfl
    · exact put_be_1 m w (by simp at n1 ⊢; omega)
    · exact put_be_2 m w (by simp at n1 ⊢; omega)
    · exact put_be_3 m w (by simp at n1 ⊢; omega)
    · exact put_be_4 m w (by simp at n1 ⊢; omega)
    · exact put_be_5 m w (by simp at n1 ⊢; omega)
    · exact put_be_6 m w (by simp at n1 ⊢; omega)
  · rw [putL_not hok]
    have hd := decide_eq_false hok
    go_enter Try.func42, Try.ntmps42
    go_wp2_with (first | (go_at_call 53; refine (fits_any _ _ _).mono ?_; rintro e w' ⟨rfl, rfl⟩))
    go_ret
    exact ⟨rfl, World.grownBy.refl _ _⟩

theorem str_size (l : List UInt8) : (⟨l.toArray⟩ : ByteArray).size = l.length := rfl
theorem le_max {n : Nat} (h : n ≤ 1000000000000) : n ≤ maxLen := by unfold maxLen; omega

theorem len_le (n k : Int) : (putL n k).length ≤ 6 := by
  unfold putL
  split
  · rename_i h
    rw [beL_length]
    have := h.2.1
    omega
  · simp

end Go.Proofs.Ythfhffcimjolgaa
