/- The model's writing of a packet. -/
import Derived.Test.YtihaamgimakcoaaIpB
import Derived.Test.YtihaamgimakcoaaBeInt
namespace Go.Proofs.Ytihaamgimakcoaa
open Go.RowKit

theorem put_17664 : ({ data := #[69, 0] } : ByteArray) = ⟨(putL 17664 2).toArray⟩ := by rfl
theorem put_16384 : ({ data := #[64, 0] } : ByteArray) = ⟨(putL 16384 2).toArray⟩ := by rfl

set_option maxRecDepth 100000 in
set_option maxHeartbeats 2000000 in
theorem ip_head (s d t p i m : Int) (b : List UInt8) (w : World) (hok : ipOk s d t p i b) (h0 : 0 ≤ m) (h1 : m < 65536) : Calls Try.prog 83 #[ipV s d t p i b, .int .i64 m] w (StrPost w (ipHead s d t p i (20 + b.length) m)) := by
  obtain ⟨a1, a2, a3, a4, a5, a6, a7, a8, a9, a10, a11⟩ := hok
  have k1 := put2 (x := 20 + (b.length : Int)) (by omega) (by omega)
  have k2 := put2 (x := i) (by omega) (by omega)
  have k3 := put1 (x := t) (by omega) (by omega)
  have k4 := put1 (x := p) (by omega) (by omega)
  have k5 := put2 (x := m) (by omega) (by omega)
  have k6 := put4 (x := s) (by omega) (by omega)
  have k7 := put4 (x := d) (by omega) (by omega)
  have l1 : (putL (20 + (b.length : Int)) 2).length = 2 := putL_len _ _ k1
  have l2 : (putL i 2).length = 2 := putL_len _ _ k2
  have l3 : (putL t 1).length = 1 := putL_len _ _ k3
  have l4 : (putL p 1).length = 1 := putL_len _ _ k4
  have l5 : (putL m 2).length = 2 := putL_len _ _ k5
  have l6 : (putL s 4).length = 4 := putL_len _ _ k6
  have l7 : (putL d 4).length = 4 := putL_len _ _ k7
  have hbl : (b.length : Int) ≤ 362 := by omega
  have hwr : IntKind.i64.wrap (20 + (b.length : Int)) = 20 + (b.length : Int) := IntWalk.i64_in _ (by omega)
  clear a1 a2 a3 a4 a5 a6 a7 a8 a9 a10 h0 h1
  go_enter Try.func83, Try.ntmps83
  have HP := Lib.hid (ip_new w (.int .i64 s) (.int .i64 d) (.int .i64 t) (.int .i64 p) (.int .i64 i) (.string ⟨b.toArray⟩) 32)
  obtain ⟨c0, c1, c2, c3, c4, c5⟩ := ip_facts HP.out
  go_wp2_with fail
  generalize w.alloc (.cells #[.int .i64 s, .int .i64 d, .int .i64 t, .int .i64 p, .int .i64 i, .string ⟨b.toArray⟩] 32) = w1 at *
  go_region_held3 (fun w' => w'.cell? ⟨w.heap.size, 0, none⟩ = some (.int .i64 s) ∧ w'.cell? ⟨w.heap.size, 1, none⟩ = some (.int .i64 d) ∧ w'.cell? ⟨w.heap.size, 2, none⟩ = some (.int .i64 t) ∧ w'.cell? ⟨w.heap.size, 3, none⟩ = some (.int .i64 p) ∧ w'.cell? ⟨w.heap.size, 4, none⟩ = some (.int .i64 i) ∧ w'.cell? ⟨w.heap.size, 5, none⟩ = some (.string ⟨b.toArray⟩) ∧ w1.grownBy w' none) ((refine ⟨by first | assumption | (simp [*]; done), by first | assumption | (simp [*]; done), by first | assumption | (simp [*]; done), by first | assumption | (simp [*]; done), by first | assumption | (simp [*]; done), by first | assumption | (simp [*]; done), by first | assumption | exact grownBy_drew | exact grownBy_trans (by assumption) (by assumption)⟩))
    (first | (go_at_call 82; refine (be_int _ _ _ (by assumption)).mono ?_; rintro e w2 ⟨rfl, hg⟩; have q0 := hg.cell (a := ⟨w.heap.size, 0, none⟩) (v := .int .i64 s) (by assumption) (by simp); have q1 := hg.cell (a := ⟨w.heap.size, 1, none⟩) (v := .int .i64 d) (by assumption) (by simp); have q2 := hg.cell (a := ⟨w.heap.size, 2, none⟩) (v := .int .i64 t) (by assumption) (by simp); have q3 := hg.cell (a := ⟨w.heap.size, 3, none⟩) (v := .int .i64 p) (by assumption) (by simp); have q4 := hg.cell (a := ⟨w.heap.size, 4, none⟩) (v := .int .i64 i) (by assumption) (by simp); have q5 := hg.cell (a := ⟨w.heap.size, 5, none⟩) (v := .string ⟨b.toArray⟩) (by assumption) (by simp); have q6 : w1.grownBy w2 none := by first | exact grownBy_trans grownBy_drew hg | exact grownBy_trans (by assumption) hg))
  go_wp2_with fail
  go_ret
  refine ⟨ret_ba ?_, ?_⟩
  · rw [put_17664, put_16384]
    simp only [ba_append, ipHead, ipOl, List.flatten_cons, List.flatten_nil, List.append_nil, List.append_assoc]
  · first
      | exact grownBy_trans HP.out.grown (by assumption)
      | (rename_i hH _; exact grownBy_trans HP.out.grown hH.2.2.2.2.2.2)
      | (rename_i hH; exact grownBy_trans HP.out.grown hH.2.2.2.2.2.2)

theorem sum_head (s d t p i : Int) (n m : Int) (w : World) : Calls Try.prog 84 #[.string ⟨(ipHead s d t p i n m).toArray⟩] w fun e w' => e = .returned (.int .i64 (sum16 (ipHead s d t p i n m))) ∧ w = w' := by
  have hl := ipHead_len s d t p i n m
  refine (sum_spec1 _ _ (by rw [str_size]; omega)).mono ?_
  rintro e w' ⟨rfl, hw⟩
  refine ⟨?_, hw⟩
  rw [sum16_le _ (by omega), str_size]
theorem sum16_bd (l : List UInt8) (h : l.length ≤ 2000) : 0 ≤ sum16 l ∧ sum16 l < 65536 := by
  have := fin16_bd (tot l) (tot_nonneg l)
  rw [sum16_tot l h]
  omega

set_option maxRecDepth 100000 in
set_option maxHeartbeats 2000000 in
theorem ip_bytes4 (s d t p i : Int) (b : List UInt8) (w : World) (hok : ipOk s d t p i b) : Calls Try.prog 56 #[ipV s d t p i b] w (StrPost w (ipT s d t p i b)) := by
  have hbl : b.length ≤ 362 := hok.2.2.2.2.2.2.2.2.2.2
  have HO := Lib.hid (And.intro hok (sum16_bd (ipHead s d t p i (20 + b.length) 0) (by have := ipHead_len s d t p i (20 + b.length) 0; omega)))
  have hfl := ipHead_len s d t p i (20 + b.length) (ipSum s d t p i (20 + b.length))
  have hkl : ¬ 9223372036854775807 < (ipHead s d t p i (20 + b.length) (ipSum s d t p i (20 + b.length))).length + b.length := by omega
  clear hok
  go_enter Try.func56, Try.ntmps56
  have HP := Lib.hid (ip_new w (.int .i64 s) (.int .i64 d) (.int .i64 t) (.int .i64 p) (.int .i64 i) (.string ⟨b.toArray⟩) 32)
  obtain ⟨c0, c1, c2, c3, c4, c5⟩ := ip_facts HP.out
  go_wp2_with fail
  generalize w.alloc (.cells #[.int .i64 s, .int .i64 d, .int .i64 t, .int .i64 p, .int .i64 i, .string ⟨b.toArray⟩] 32) = w1 at *
  go_region_held3 (fun w' => w'.cell? ⟨w.heap.size, 0, none⟩ = some (.int .i64 s) ∧ w'.cell? ⟨w.heap.size, 1, none⟩ = some (.int .i64 d) ∧ w'.cell? ⟨w.heap.size, 2, none⟩ = some (.int .i64 t) ∧ w'.cell? ⟨w.heap.size, 3, none⟩ = some (.int .i64 p) ∧ w'.cell? ⟨w.heap.size, 4, none⟩ = some (.int .i64 i) ∧ w'.cell? ⟨w.heap.size, 5, none⟩ = some (.string ⟨b.toArray⟩) ∧ w1.grownBy w' none) ((refine ⟨by first | assumption | (simp [*]; done), by first | assumption | (simp [*]; done), by first | assumption | (simp [*]; done), by first | assumption | (simp [*]; done), by first | assumption | (simp [*]; done), by first | assumption | (simp [*]; done), by first | assumption | exact grownBy_drew | exact grownBy_trans (by assumption) (by assumption)⟩))
    (first
      | (go_at_call 83; refine (ip_head _ _ _ _ _ _ _ _ HO.out.1 (by first | decide | exact HO.out.2.1) (by first | decide | exact HO.out.2.2)).mono ?_; rintro e w2 ⟨rfl, hg⟩; have q0 := hg.cell (a := ⟨w.heap.size, 0, none⟩) (v := .int .i64 s) (by assumption) (by simp); have q1 := hg.cell (a := ⟨w.heap.size, 1, none⟩) (v := .int .i64 d) (by assumption) (by simp); have q2 := hg.cell (a := ⟨w.heap.size, 2, none⟩) (v := .int .i64 t) (by assumption) (by simp); have q3 := hg.cell (a := ⟨w.heap.size, 3, none⟩) (v := .int .i64 p) (by assumption) (by simp); have q4 := hg.cell (a := ⟨w.heap.size, 4, none⟩) (v := .int .i64 i) (by assumption) (by simp); have q5 := hg.cell (a := ⟨w.heap.size, 5, none⟩) (v := .string ⟨b.toArray⟩) (by assumption) (by simp); have q6 : w1.grownBy w2 none := by first | exact grownBy_trans grownBy_drew hg | exact grownBy_trans (by assumption) hg)
      | (go_at_call 84; refine (sum_head _ _ _ _ _ _ _ _).mono ?_; rintro e w2 ⟨rfl, rfl⟩; rw [show sum16 (ipHead s d t p i (20 + b.length) 0) = ipSum s d t p i (20 + b.length) from rfl]))
  go_wp2_with fail
  go_ret
  refine ⟨ret_ba ?_, ?_⟩
  · rw [ipT, ba_append]
  · first
      | exact grownBy_trans HP.out.grown (by assumption)
      | (rename_i hH _; exact grownBy_trans HP.out.grown hH.2.2.2.2.2.2)
      | (rename_i hH; exact grownBy_trans HP.out.grown hH.2.2.2.2.2.2)

set_option maxRecDepth 100000 in
set_option maxHeartbeats 2000000 in
theorem ip_spec (s d t p i : Int) (b : List UInt8) (w : World) : Calls Try.prog 77 #[ipV s d t p i b] w (StrPost w (ipL s d t p i b)) := by
  by_cases hok : ipOk s d t p i b
  · have HE := Lib.hid (And.intro hok (show ipL s d t p i b = ipT s d t p i b from if_pos hok))
    have HD := Lib.hid (decide_eq_true hok)
    clear hok
    go_enter Try.func77, Try.ntmps77
    have HP := Lib.hid (ip_new w (.int .i64 s) (.int .i64 d) (.int .i64 t) (.int .i64 p) (.int .i64 i) (.string ⟨b.toArray⟩) 32)
    go_wp2_with fail
    refine (ip_ok_spec _ _ _ _ _ _ _).mono ?_
    rintro e w1 ⟨rfl, hg⟩
    rw [HD.out]
    have hm := HP.out.kept hg
    obtain ⟨c0, c1, c2, c3, c4, c5⟩ := ip_facts hm
    have HM := Lib.hid hm.grown
    clear hg hm HP
    go_wp2_with fail
    refine (ip_bytes4 _ _ _ _ _ _ _ HE.out.1).mono ?_
    rintro e w2 ⟨rfl, hg⟩
    have HG := Lib.hid (grownBy_trans HM.out hg)
    clear hg
    go_wp2_with fail
    go_ret
    exact ⟨ret_s HE.out.2.symm, HG.out⟩
  · have HE := Lib.hid (show ipL s d t p i b = [] from if_neg hok)
    have HD := Lib.hid (decide_eq_false hok)
    clear hok
    go_enter Try.func77, Try.ntmps77
    go_wp2_with fail
    refine (ip_ok_spec _ _ _ _ _ _ _).mono ?_
    rintro e w1 ⟨rfl, hg⟩
    rw [HD.out]
    have HG := Lib.hid (grownBy_trans (World.grownBy_alloc _ _ _) hg)
    clear hg
    go_wp2_with fail
    go_ret
    exact ⟨ret_s (a := []) HE.out.symm, HG.out⟩

end Go.Proofs.Ytihaamgimakcoaa
