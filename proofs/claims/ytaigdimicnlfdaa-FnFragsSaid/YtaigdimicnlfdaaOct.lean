/- Contracts of the program's own writing of a number as bytes, over every two numbers, in both orders. -/
import Derived.Test.YtaigdimicnlfdaaPut
namespace Go.Proofs.Ytaigdimicnlfdaa
open Go.RowKit

def octV (n : Int) : Array Value := #[.int .u8 (n % 256), .int .u8 (n / 256 % 256), .int .u8 (n / 65536 % 256), .int .u8 (n / 16777216 % 256), .int .u8 (n / 4294967296 % 256), .int .u8 (n / 1099511627776)]

/-- The bytes in the block that was made last, as a text. -/
theorem conv_new (w : World) (C : Array Value) (T : TypeId) (k c : Nat) (l : List UInt8) (hl : l.length = k) (h : ∀ j (hj : j < l.length), C[j]? = some (.int .u8 (l[j].toNat : Int))) :
    (convert 22 9 (.slice (some ⟨w.heap.size, 0, none⟩) k c)).run Try.prog (w.alloc (.cells C T)) = .ok (.string ⟨l.toArray⟩) (w.alloc (.cells C T)) := by
  subst hl
  refine run_convert_bytes_back _ 22 9 5 ⟨w.heap.size, 0, none⟩ c l Try.underlying22 Try.underlying5 Try.underlying9 fun j hj => ?_
  have e : ((⟨w.heap.size, 0, none⟩ : Addr).add j) = ⟨w.heap.size, j, none⟩ := by by_cases h0 : j = 0 <;> simp [Addr.add, h0]
  rw [e, World.cell?_alloc_mark]
  exact h j hj

theorem conv_at (w : World) (b : Nat) (hb : b = w.heap.size) (C : Array Value) (T : TypeId) (k c : Nat) (l : List UInt8) (hl : l.length = k) (h : ∀ j (hj : j < l.length), C[j]? = some (.int .u8 (l[j].toNat : Int))) :
    (convert 22 9 (.slice (some ⟨b, 0, none⟩) k c)).run Try.prog (w.alloc (.cells C T)) = .ok (.string ⟨l.toArray⟩) (w.alloc (.cells C T)) := by
  subst hb
  exact conv_new w C T k c l hl h

theorem octs (n : Nat) (h : n < 281474976710656) : octV (n : Int) = #[.int .u8 ((UInt8.ofNat (n % 256)).toNat : Int), .int .u8 ((UInt8.ofNat (n / 256 % 256)).toNat : Int), .int .u8 ((UInt8.ofNat (n / 65536 % 256)).toNat : Int), .int .u8 ((UInt8.ofNat (n / 16777216 % 256)).toNat : Int), .int .u8 ((UInt8.ofNat (n / 4294967296 % 256)).toNat : Int), .int .u8 ((UInt8.ofNat (n / 1099511627776 % 256)).toNat : Int)] := by
  have e : n / 1099511627776 % 256 = n / 1099511627776 := by omega
  simp [octV, e]

theorem beL_1 (n : Nat) : beL n 1 = [UInt8.ofNat (n % 256)] := by
  simp [beL]

theorem beL_2 (n : Nat) : beL n 2 = [UInt8.ofNat (n / 256 % 256), UInt8.ofNat (n % 256)] := by
  simp [beL]

theorem beL_3 (n : Nat) : beL n 3 = [UInt8.ofNat (n / 65536 % 256), UInt8.ofNat (n / 256 % 256), UInt8.ofNat (n % 256)] := by
  simp [beL, Nat.div_div_eq_div_mul]

theorem beL_4 (n : Nat) : beL n 4 = [UInt8.ofNat (n / 16777216 % 256), UInt8.ofNat (n / 65536 % 256), UInt8.ofNat (n / 256 % 256), UInt8.ofNat (n % 256)] := by
  simp [beL, Nat.div_div_eq_div_mul]

theorem beL_5 (n : Nat) : beL n 5 = [UInt8.ofNat (n / 4294967296 % 256), UInt8.ofNat (n / 16777216 % 256), UInt8.ofNat (n / 65536 % 256), UInt8.ofNat (n / 256 % 256), UInt8.ofNat (n % 256)] := by
  simp [beL, Nat.div_div_eq_div_mul]

theorem beL_6 (n : Nat) : beL n 6 = [UInt8.ofNat (n / 1099511627776 % 256), UInt8.ofNat (n / 4294967296 % 256), UInt8.ofNat (n / 16777216 % 256), UInt8.ofNat (n / 65536 % 256), UInt8.ofNat (n / 256 % 256), UInt8.ofNat (n % 256)] := by
  simp [beL, Nat.div_div_eq_div_mul]

theorem str_size (l : List UInt8) : (⟨l.toArray⟩ : ByteArray).size = l.length := rfl
theorem le_max {n : Nat} (h : n ≤ 1000000000000) : n ≤ maxLen := by unfold maxLen; omega

theorem len_le (n k : Int) : (putL n k).length ≤ 6 := by
  unfold putL
  split
  · rename_i h
    rw [beL_length]
    have := h.2.1
    omega
  · simp

end Go.Proofs.Ytaigdimicnlfdaa
