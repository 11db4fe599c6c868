/- A segment's bytes: the model's writing. -/
import Derived.Test.YthfhffcimjolgaaTcpB
namespace Go.Proofs.Ythfhffcimjolgaa
open Go.RowKit

theorem put_zero2 : ({ data := #[0, 0] } : ByteArray) = ⟨(putL 0 2).toArray⟩ := by rfl

set_option maxRecDepth 100000 in
set_option maxHeartbeats 2000000 in
theorem tcp_head (f o s k g n m : Int) (p : Option Addr) (c : Nat) (l : List Rg) (d O : List UInt8) (w : World) (hok : tcpA f o s k g n d) (hO : O.length ≤ 28) (h0 : 0 ≤ m) (h1 : m < 65536) : Calls Try.prog 33 #[tcpV f o s k g n p c l d, .string ⟨O.toArray⟩, .int .i64 m] w (StrPost w (tcpHd f o s k g n (16 * (5 + (O.length : Int) / 4)) m ++ O)) := by
  obtain ⟨a1, a2, a3, a4, a5, a6, a7, a8, a9, a10, a11, a12, a13⟩ := hok
  have k1 := put2 (x := f) (by omega) (by omega)
  have k2 := put2 (x := o) (by omega) (by omega)
  have k3 := put4 (x := s) (by omega) (by omega)
  have k4 := put4 (x := k) (by omega) (by omega)
  have k5 := put1 (x := 16 * (5 + (O.length : Int) / 4)) (by omega) (by omega)
  have k6 := put1 (x := g) (by omega) (by omega)
  have k7 := put2 (x := n) (by omega) (by omega)
  have k8 := put2 (x := m) (by omega) (by omega)
  have l1 : (putL f 2).length = 2 := putL_len _ _ k1
  have l2 : (putL o 2).length = 2 := putL_len _ _ k2
  have l3 : (putL s 4).length = 4 := putL_len _ _ k3
  have l4 : (putL k 4).length = 4 := putL_len _ _ k4
  have l5 : (putL (16 * (5 + (O.length : Int) / 4)) 1).length = 1 := putL_len _ _ k5
  have l6 : (putL g 1).length = 1 := putL_len _ _ k6
  have l7 : (putL n 2).length = 2 := putL_len _ _ k7
  have l8 : (putL m 2).length = 2 := putL_len _ _ k8
  have l9 : (putL 0 2).length = 2 := two_len 0 (by omega) (by omega)
  have hw1 : (O.length : Int).tdiv 4 = (O.length : Int) / 4 := Int.tdiv_eq_ediv_of_nonneg (by omega)
  have hw2 : IntKind.i64.wrap ((O.length : Int) / 4) = (O.length : Int) / 4 := IntWalk.i64_in _ (by omega)
  have hw3 : IntKind.i64.wrap (5 + (O.length : Int) / 4) = 5 + (O.length : Int) / 4 := IntWalk.i64_in _ (by omega)
  have hw4 : IntKind.i64.wrap (16 * (5 + (O.length : Int) / 4)) = 16 * (5 + (O.length : Int) / 4) := IntWalk.i64_in _ (by omega)
  have hkl : ¬ 9223372036854775807 < 20 + O.length := by omega
  clear a1 a2 a3 a4 a5 a6 a7 a8 a9 a10 a11 a12 h0 h1
  go_enter Try.func33, Try.ntmps33
  have HP := Lib.hid (tcp_new w (.int .i64 f) (.int .i64 o) (.int .i64 s) (.int .i64 k) (.int .i64 g) (.int .i64 n) (.slice p l.length c) (.string ⟨d.toArray⟩) 26)
  obtain ⟨c0, c1, c2, c3, c4, c5, c6, c7⟩ := tcp_facts HP.out
  go_wp2_with fail
  generalize w.alloc (.cells #[.int .i64 f, .int .i64 o, .int .i64 s, .int .i64 k, .int .i64 g, .int .i64 n, .slice p l.length c, .string ⟨d.toArray⟩] 26) = w1 at *
  go_region_held3 (fun w' => w'.cell? ⟨w.heap.size, 0, none⟩ = some (.int .i64 f) ∧ w'.cell? ⟨w.heap.size, 1, none⟩ = some (.int .i64 o) ∧ w'.cell? ⟨w.heap.size, 2, none⟩ = some (.int .i64 s) ∧ w'.cell? ⟨w.heap.size, 3, none⟩ = some (.int .i64 k) ∧ w'.cell? ⟨w.heap.size, 4, none⟩ = some (.int .i64 g) ∧ w'.cell? ⟨w.heap.size, 5, none⟩ = some (.int .i64 n) ∧ w'.cell? ⟨w.heap.size, 7, none⟩ = some (.string ⟨d.toArray⟩) ∧ w1.grownBy w' none) ((refine ⟨by first | assumption | (simp [*]; done), by first | assumption | (simp [*]; done), by first | assumption | (simp [*]; done), by first | assumption | (simp [*]; done), by first | assumption | (simp [*]; done), by first | assumption | (simp [*]; done), by first | assumption | (simp [*]; done), by first | assumption | exact grownBy_drew | exact grownBy_trans (by assumption) (by assumption)⟩))
    (first | (go_at_call 49; refine (be_int _ _ _ (by assumption)).mono ?_; rintro e w2 ⟨rfl, hg⟩; have q0 := hg.cell (a := ⟨w.heap.size, 0, none⟩) (v := .int .i64 f) (by assumption) (by simp); have q1 := hg.cell (a := ⟨w.heap.size, 1, none⟩) (v := .int .i64 o) (by assumption) (by simp); have q2 := hg.cell (a := ⟨w.heap.size, 2, none⟩) (v := .int .i64 s) (by assumption) (by simp); have q3 := hg.cell (a := ⟨w.heap.size, 3, none⟩) (v := .int .i64 k) (by assumption) (by simp); have q4 := hg.cell (a := ⟨w.heap.size, 4, none⟩) (v := .int .i64 g) (by assumption) (by simp); have q5 := hg.cell (a := ⟨w.heap.size, 5, none⟩) (v := .int .i64 n) (by assumption) (by simp); have q6 := hg.cell (a := ⟨w.heap.size, 7, none⟩) (v := .string ⟨d.toArray⟩) (by assumption) (by simp); have qg : w1.grownBy w2 none := by first | exact grownBy_trans grownBy_drew hg | exact grownBy_trans (by assumption) hg))
  go_wp2_with fail
  go_ret
  refine ⟨ret_ba ?_, ?_⟩
  · rw [put_zero2]
    simp only [ba_append, tcpHd, tcpOl, List.flatten_cons, List.flatten_nil, List.append_nil, List.append_assoc]
  · first
      | exact grownBy_trans HP.out.grown (by assumption)
      | (rename_i hH _; exact grownBy_trans HP.out.grown hH.2.2.2.2.2.2.2)
      | (rename_i hH; exact grownBy_trans HP.out.grown hH.2.2.2.2.2.2.2)

theorem ahead_same (l : List Rg) : 16 * (5 + ((optL l).length : Int) / 4) = aheadOf l := by
  unfold aheadOf
  omega
theorem segSum_bd (a b : Int) (s : List UInt8) (h : s.length ≤ 1000) : 0 ≤ segSum a b s ∧ segSum a b s < 65536 := by
  have h1 := segL_len a b s
  have h2 := fin16_bd (tot (segL a b s)) (tot_nonneg _)
  unfold segSum
  rw [sum16_tot _ (by omega)]
  omega

set_option maxRecDepth 100000 in
set_option maxHeartbeats 2000000 in
theorem tcp_spec (a b f o s k g n : Int) (p : Option Addr) (c : Nat) (l : List Rg) (d : List UInt8) (w : World) (h : RgAt w p l) (hl : l.length ≤ maxLen) : Calls Try.prog 11 #[.int .i64 a, .int .i64 b, tcpV f o s k g n p c l d] w (StrPost w (tcpL a b f o s k g n l d)) := by
  have hA := tcp_new w (.int .i64 f) (.int .i64 o) (.int .i64 s) (.int .i64 k) (.int .i64 g) (.int .i64 n) (.slice p l.length c) (.string ⟨d.toArray⟩) 26
  have HA := Lib.hid (And.intro hA (h.kept hA.grown))
  have HL := Lib.hid hl
  clear h hA hl
  cases ga : goesB a
  · have HN := Lib.hid (show tcpL a b f o s k g n l d = [] from if_neg (fun h => goes_not ga h.1))
    go_enter Try.func11, Try.ntmps11
    go_wp2_with (go_at_call 27; refine (seq_any _ _).mono ?_; rintro e w' ⟨rfl, rfl⟩; rw [ga])
    go_ret
    exact ⟨ret_s (a := []) HN.out.symm, HA.out.1.grown⟩
  · cases gb : goesB b
    · have HN := Lib.hid (show tcpL a b f o s k g n l d = [] from if_neg (fun h => goes_not gb h.2.1))
      go_enter Try.func11, Try.ntmps11
      go_wp2_with (go_at_call 27; refine (seq_any _ _).mono ?_; rintro e w' ⟨rfl, rfl⟩; first | rw [ga] | rw [gb])
      go_ret
      exact ⟨ret_s (a := []) HN.out.symm, HA.out.1.grown⟩
    · by_cases hok : tcpOk f o s k g n l d
      · have HD := Lib.hid (decide_eq_true hok)
        have hG : tcpG a b f o s k g n l d := ⟨goes_of ga, goes_of gb, hok⟩
        have HG := Lib.hid (And.intro hG (show tcpL a b f o s k g n l d = tcpT a b f o s k g n l d from if_pos hG))
        have hdl : d.length ≤ 200 := hok.1.2.2.2.2.2.2.2.2.2.2.2.2
        clear hok hG
        go_enter Try.func11, Try.ntmps11
        go_wp2_with (first
          | (go_at_call 27; refine (seq_any _ _).mono ?_; rintro e w' ⟨rfl, rfl⟩; first | rw [ga] | rw [gb]))
        refine (tcp_ok_spec _ _ _ _ _ _ _ _ _ _ _ HA.out.2 HL.out).mono ?_
        rintro e w1 ⟨rfl, hg⟩
        rw [HD.out]
        have H1 := Lib.hid (And.intro (HA.out.1.kept hg) (HA.out.2.kept hg))
        clear hg HA
        obtain ⟨c0, c1, c2, c3, c4, c5, c6, c7⟩ := tcp_facts H1.out.1
        go_wp2_with fail
        refine (opt_spec _ _ _ _ H1.out.2 HG.out.1.2.2.2).mono ?_
        rintro e w2 ⟨rfl, hg⟩
        have H2 := Lib.hid (H1.out.1.kept hg)
        clear hg H1 c0 c1 c2 c3 c4 c5 c6 c7
        obtain ⟨c0, c1, c2, c3, c4, c5, c6, c7⟩ := tcp_facts H2.out
        have hq : (optL l).length ≤ 28 := by
          rw [optL_len l HG.out.1.2.2.2]
          have := HG.out.1.2.2.2.1
          split <;> omega
        have hd0 := tcpHd_len f o s k g n (aheadOf l) 0
        have hd1 := tcpHd_len f o s k g n (aheadOf l) (tcpSm a b f o s k g n l d)
        have hk0 : ¬ 9223372036854775807 < (tcpHd f o s k g n (aheadOf l) 0).length + (optL l).length + d.length := by omega
        have hk1 : ¬ 9223372036854775807 < (tcpHd f o s k g n (aheadOf l) (tcpSm a b f o s k g n l d)).length + (optL l).length + d.length := by omega
        have hB : (tcpHd f o s k g n (aheadOf l) 0 ++ (optL l ++ d)).length ≤ 1000 := by simp only [List.length_append]; omega
        have HB := Lib.hid (And.intro hB (segSum_bd a b _ hB))
        have HS := Lib.hid (And.intro hq (ahead_same l))
        clear hd0 hd1 hB hq
        go_wp2_with fail
        go_region_held3 (fun w' => w'.cell? ⟨w.heap.size, 0, none⟩ = some (.int .i64 f) ∧ w'.cell? ⟨w.heap.size, 1, none⟩ = some (.int .i64 o) ∧ w'.cell? ⟨w.heap.size, 2, none⟩ = some (.int .i64 s) ∧ w'.cell? ⟨w.heap.size, 3, none⟩ = some (.int .i64 k) ∧ w'.cell? ⟨w.heap.size, 4, none⟩ = some (.int .i64 g) ∧ w'.cell? ⟨w.heap.size, 5, none⟩ = some (.int .i64 n) ∧ w'.cell? ⟨w.heap.size, 6, none⟩ = some (.slice p l.length c) ∧ w'.cell? ⟨w.heap.size, 7, none⟩ = some (.string ⟨d.toArray⟩) ∧ w2.grownBy w' none) ((refine ⟨by first | assumption | (simp [*]; done), by first | assumption | (simp [*]; done), by first | assumption | (simp [*]; done), by first | assumption | (simp [*]; done), by first | assumption | (simp [*]; done), by first | assumption | (simp [*]; done), by first | assumption | (simp [*]; done), by first | assumption | (simp [*]; done), by first | assumption | exact grownBy_drew | exact grownBy_trans (by assumption) (by assumption)⟩))
          (first
            | (go_at_call 33; refine (tcp_head _ _ _ _ _ _ _ _ _ _ _ _ _ HG.out.1.2.2.1 HS.out.1 (by first | decide | exact HB.out.2.1) (by first | decide | exact HB.out.2.2)).mono ?_; rintro e w9 ⟨rfl, hg⟩; rw [HS.out.2]; have q0 := hg.cell (a := ⟨w.heap.size, 0, none⟩) (v := .int .i64 f) (by assumption) (by simp); have q1 := hg.cell (a := ⟨w.heap.size, 1, none⟩) (v := .int .i64 o) (by assumption) (by simp); have q2 := hg.cell (a := ⟨w.heap.size, 2, none⟩) (v := .int .i64 s) (by assumption) (by simp); have q3 := hg.cell (a := ⟨w.heap.size, 3, none⟩) (v := .int .i64 k) (by assumption) (by simp); have q4 := hg.cell (a := ⟨w.heap.size, 4, none⟩) (v := .int .i64 g) (by assumption) (by simp); have q5 := hg.cell (a := ⟨w.heap.size, 5, none⟩) (v := .int .i64 n) (by assumption) (by simp); have q6 := hg.cell (a := ⟨w.heap.size, 6, none⟩) (v := .slice p l.length c) (by assumption) (by simp); have q7 := hg.cell (a := ⟨w.heap.size, 7, none⟩) (v := .string ⟨d.toArray⟩) (by assumption) (by simp); have qg : w2.grownBy w9 none := by first | exact grownBy_trans grownBy_drew hg | exact grownBy_trans (by assumption) hg)
            | (go_at_call 28; rw [ba_append, List.append_assoc]; refine (seg_spec _ _ _ _ HG.out.1.1 HG.out.1.2.1 HB.out.1).mono ?_; rintro e w9 ⟨rfl, hg⟩; rw [show segSum a b (tcpHd f o s k g n (aheadOf l) 0 ++ (optL l ++ d)) = tcpSm a b f o s k g n l d from rfl]; have q0 := hg.cell (a := ⟨w.heap.size, 0, none⟩) (v := .int .i64 f) (by assumption) (by simp); have q1 := hg.cell (a := ⟨w.heap.size, 1, none⟩) (v := .int .i64 o) (by assumption) (by simp); have q2 := hg.cell (a := ⟨w.heap.size, 2, none⟩) (v := .int .i64 s) (by assumption) (by simp); have q3 := hg.cell (a := ⟨w.heap.size, 3, none⟩) (v := .int .i64 k) (by assumption) (by simp); have q4 := hg.cell (a := ⟨w.heap.size, 4, none⟩) (v := .int .i64 g) (by assumption) (by simp); have q5 := hg.cell (a := ⟨w.heap.size, 5, none⟩) (v := .int .i64 n) (by assumption) (by simp); have q6 := hg.cell (a := ⟨w.heap.size, 6, none⟩) (v := .slice p l.length c) (by assumption) (by simp); have q7 := hg.cell (a := ⟨w.heap.size, 7, none⟩) (v := .string ⟨d.toArray⟩) (by assumption) (by simp); have qg : w2.grownBy w9 none := by first | exact grownBy_trans grownBy_drew hg | exact grownBy_trans (by assumption) hg))
        go_wp2_with fail
        go_ret
        refine ⟨ret_ba ?_, ?_⟩
        · rw [HG.out.2, tcpT, ba_append, List.append_assoc]
        · first
            | exact grownBy_trans H2.out.grown (by assumption)
            | (rename_i hH _; exact grownBy_trans H2.out.grown hH.2.2.2.2.2.2.2.2)
            | (rename_i hH; exact grownBy_trans H2.out.grown hH.2.2.2.2.2.2.2.2)
      · have HN := Lib.hid (show tcpL a b f o s k g n l d = [] from if_neg (fun h => hok h.2.2))
        have HD := Lib.hid (decide_eq_false hok)
        clear hok
        go_enter Try.func11, Try.ntmps11
        go_wp2_with (first
          | (go_at_call 27; refine (seq_any _ _).mono ?_; rintro e w' ⟨rfl, rfl⟩; first | rw [ga] | rw [gb]))
        refine (tcp_ok_spec _ _ _ _ _ _ _ _ _ _ _ HA.out.2 HL.out).mono ?_
        rintro e w1 ⟨rfl, hg⟩
        rw [HD.out]
        have H1 := Lib.hid (grownBy_trans HA.out.1.grown hg)
        clear hg
        go_wp2_with fail
        go_ret
        exact ⟨ret_s (a := []) HN.out.symm, H1.out⟩

end Go.Proofs.Ythfhffcimjolgaa
