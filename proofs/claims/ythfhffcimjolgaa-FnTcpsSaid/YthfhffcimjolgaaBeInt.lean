/- The model's writing of a number, and how long it is. -/
import Derived.Test.YthfhffcimjolgaaBuild
namespace Go.Proofs.Ythfhffcimjolgaa
open Go.RowKit

theorem putL_len (x k : Int) (h : putOk x k) : (putL x k).length = k.toNat := by rw [putL_ok h, beL_length]
theorem be_int (x k : Int) (w : World) (h : putOk x k) : Calls Try.prog 49 #[.int .i64 x, .int .i64 k] w (StrPost w (putL x k)) := by
  obtain ⟨h1, h6, h0, hn⟩ := h
  obtain ⟨n, rfl⟩ := Int.eq_ofNat_of_zero_le h0
  obtain ⟨m, rfl⟩ := Int.eq_ofNat_of_zero_le (show 0 ≤ k by omega)
  have e := pow_bd (m : Int) h1 h6
  rw [putL_ok ⟨h1, h6, h0, hn⟩]
  exact be_any n m w (by omega) (by omega) (by omega)
theorem be_two (x : Int) (w : World) (h0 : 0 ≤ x) (h1 : x < 65536) : Calls Try.prog 49 #[.int .i64 x, .int .i64 2] w (StrPost w (putL x 2)) := be_int x 2 w ⟨by omega, by omega, h0, by simpa using h1⟩
theorem two_len (x : Int) (h0 : 0 ≤ x) (h1 : x < 65536) : (putL x 2).length = 2 := putL_len x 2 ⟨by omega, by omega, h0, by simpa using h1⟩
theorem put1 {x : Int} (h0 : 0 ≤ x) (h1 : x < 256) : putOk x 1 := ⟨by omega, by omega, h0, by simpa using h1⟩
theorem put2 {x : Int} (h0 : 0 ≤ x) (h1 : x < 65536) : putOk x 2 := ⟨by omega, by omega, h0, by simpa using h1⟩
theorem put4 {x : Int} (h0 : 0 ≤ x) (h1 : x < 4294967296) : putOk x 4 := ⟨by omega, by omega, h0, by simpa using h1⟩

end Go.Proofs.Ythfhffcimjolgaa
