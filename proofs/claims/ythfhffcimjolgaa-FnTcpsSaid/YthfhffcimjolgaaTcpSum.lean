/- The sum of a segment between two addresses. -/
import Derived.Test.YthfhffcimjolgaaTcpOptI
import Derived.Test.YthfhffcimjolgaaBack
namespace Go.Proofs.Ythfhffcimjolgaa
open Go.RowKit

def segL (a b : Int) (s : List UInt8) : List UInt8 := putL a 4 ++ putL b 4 ++ putL 6 2 ++ putL s.length 2 ++ s
def segSum (a b : Int) (s : List UInt8) : Int := sum16 (segL a b s)
theorem segL_len (a b : Int) (s : List UInt8) : (segL a b s).length ≤ 24 + s.length := by
  have a1 := len_le a 4
  have a2 := len_le b 4
  have a3 := len_le 6 2
  have a4 := len_le s.length 2
  unfold segL
  simp only [List.length_append]
  omega
theorem segL_flat (a b : Int) (s : List UInt8) : segL a b s = putL a 4 ++ (putL b 4 ++ (putL 6 2 ++ (putL s.length 2 ++ s))) := by
  unfold segL
  simp only [List.append_assoc]
theorem put_six : ({ data := #[0, 6] } : ByteArray) = ⟨(putL 6 2).toArray⟩ := by rfl

set_option maxRecDepth 100000 in
set_option maxHeartbeats 1000000 in
theorem seg_impl (a b : Int) (s : List UInt8) (w : World) (ha : 0 ≤ a ∧ a < 4294967296) (hb : 0 ≤ b ∧ b < 4294967296) (hs : s.length ≤ 1000) : Calls Try.prog 20 #[.int .i64 a, .int .i64 b, .string ⟨s.toArray⟩] w fun e w' => e = .returned (.int .i64 (segSum a b s)) ∧ w.grownBy w' none := by
  have la := four_len a ha.1 ha.2
  have lb := four_len b hb.1 hb.2
  have lc : (putL 6 2).length = 2 := two_len 6 (by omega) (by omega)
  have ld : (putL (s.length : Int) 2).length = 2 := two_len _ (by omega) (by omega)
  have HS := Lib.hid (And.intro hs (segL_len a b s))
  have b1 : ¬ 9223372036854775807 < 12 + s.length := by omega
  have b2 : ¬ 9223372036854775807 < 4 + 4 + 2 + 2 + s.length := by omega
  have b3 : (s.length : Int) ≤ 1000 := by omega
  clear ha hb hs
  go_enter Try.func20, Try.ntmps20
  go_wp2_with fail
  refine (put_be_impl _ _ _).mono ?_
  rintro e w1 ⟨rfl, hg⟩
  have G1 := Lib.hid (hg)
  clear hg
  go_wp2_with fail
  refine (put_be_impl _ _ _).mono ?_
  rintro e w2 ⟨rfl, hg⟩
  have G2 := Lib.hid (grownBy_trans G1.out hg)
  clear hg
  go_wp2_with fail
  refine (put_be_impl _ _ _).mono ?_
  rintro e w3 ⟨rfl, hg⟩
  have G3 := Lib.hid (grownBy_trans G2.out hg)
  clear hg
  go_wp2_with fail
  refine (put_be_impl _ _ _).mono ?_
  rintro e w4 ⟨rfl, hg⟩
  have G4 := Lib.hid (grownBy_trans G3.out hg)
  clear hg
  go_wp2_with fail
  simp only [ba_append]
  refine (sum_impl _ _ (by rw [str_size]; have := HS.out; unfold segL at this; unfold maxLen; omega)).mono ?_
  rintro e w5 ⟨rfl, rfl⟩
  go_wp2_with fail
  go_ret
  exact ⟨ret_i (by rw [segSum, segL_flat]), G4.out⟩

set_option maxRecDepth 100000 in
set_option maxHeartbeats 1000000 in
theorem seg_spec (a b : Int) (s : List UInt8) (w : World) (ha : 0 ≤ a ∧ a < 4294967296) (hb : 0 ≤ b ∧ b < 4294967296) (hs : s.length ≤ 1000) : Calls Try.prog 28 #[.int .i64 a, .int .i64 b, .string ⟨s.toArray⟩] w fun e w' => e = .returned (.int .i64 (segSum a b s)) ∧ w.grownBy w' none := by
  have ka := put4 ha.1 ha.2
  have kb := put4 hb.1 hb.2
  have kd : putOk (s.length : Int) 2 := put2 (by omega) (by omega)
  have la := four_len a ha.1 ha.2
  have lb := four_len b hb.1 hb.2
  have lc : (putL 6 2).length = 2 := two_len 6 (by omega) (by omega)
  have ld : (putL (s.length : Int) 2).length = 2 := two_len _ (by omega) (by omega)
  have HS := Lib.hid (And.intro hs (segL_len a b s))
  have HE := Lib.hid (sum16_le (segL a b s) (by have := segL_len a b s; omega))
  have b1 : ¬ 9223372036854775807 < 12 + s.length := by omega
  have b2 : ¬ 9223372036854775807 < 4 + 4 + 2 + 2 + s.length := by omega
  have b3 : (s.length : Int) ≤ 1000 := by omega
  clear ha hb hs
  go_enter Try.func28, Try.ntmps28
  go_wp2_with fail
  refine (be_int _ _ _ (by assumption)).mono ?_
  rintro e w1 ⟨rfl, hg⟩
  have G1 := Lib.hid (hg)
  clear hg
  go_wp2_with fail
  refine (be_int _ _ _ (by assumption)).mono ?_
  rintro e w2 ⟨rfl, hg⟩
  have G2 := Lib.hid (grownBy_trans G1.out hg)
  clear hg
  go_wp2_with fail
  refine (be_int _ _ _ (by assumption)).mono ?_
  rintro e w3 ⟨rfl, hg⟩
  have G3 := Lib.hid (grownBy_trans G2.out hg)
  clear hg
  go_wp2_with fail
  rw [put_six]
  simp only [ba_append]
  refine (sum_spec1 _ _ (by rw [str_size]; have := HS.out; unfold segL at this; omega)).mono ?_
  rintro e w5 ⟨rfl, rfl⟩
  go_wp2_with fail
  go_ret
  have hlen : (segL a b s).length = 4 + (4 + (2 + (2 + s.length))) := by rw [segL_flat]; simp only [List.length_append, la, lb, lc, ld]
  exact ⟨ret_i (by rw [segSum, HE.out, hlen, segL_flat]), G3.out⟩

end Go.Proofs.Ythfhffcimjolgaa
