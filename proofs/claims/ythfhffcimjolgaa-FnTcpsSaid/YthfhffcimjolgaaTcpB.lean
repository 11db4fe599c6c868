/- A segment's bytes: the program's own writing. -/
import Derived.Test.YthfhffcimjolgaaTcpP
import Derived.Test.YthfhffcimjolgaaGetF
import Derived.Deep.RegionHeld3
namespace Go.Proofs.Ythfhffcimjolgaa
open Go.RowKit

def aheadOf (l : List Rg) : Int := (20 + ((optL l).length : Int)) / 4 * 16
def tcpOl (f o s k g n h m : Int) : List (List UInt8) := [putL f 2, putL o 2, putL s 4, putL k 4, putL h 1, putL g 1, putL n 2, putL m 2, putL 0 2]
def tcpHd (f o s k g n h m : Int) : List UInt8 := (tcpOl f o s k g n h m).flatten
def tcpSm (a b f o s k g n : Int) (l : List Rg) (d : List UInt8) : Int := segSum a b (tcpHd f o s k g n (aheadOf l) 0 ++ (optL l ++ d))
def tcpT (a b f o s k g n : Int) (l : List Rg) (d : List UInt8) : List UInt8 := tcpHd f o s k g n (aheadOf l) (tcpSm a b f o s k g n l d) ++ (optL l ++ d)
def tcpG (a b f o s k g n : Int) (l : List Rg) (d : List UInt8) : Prop := (0 ≤ a ∧ a < 4294967296) ∧ (0 ≤ b ∧ b < 4294967296) ∧ tcpOk f o s k g n l d
instance (a b f o s k g n : Int) (l : List Rg) (d : List UInt8) : Decidable (tcpG a b f o s k g n l d) := by unfold tcpG; infer_instance
def tcpL (a b f o s k g n : Int) (l : List Rg) (d : List UInt8) : List UInt8 := if tcpG a b f o s k g n l d then tcpT a b f o s k g n l d else []
theorem tcpHd_len (f o s k g n h m : Int) : (tcpHd f o s k g n h m).length ≤ 54 := by
  have a1 := len_le f 2
  have a2 := len_le o 2
  have a3 := len_le s 4
  have a4 := len_le k 4
  have a5 := len_le h 1
  have a6 := len_le g 1
  have a7 := len_le n 2
  have a8 := len_le m 2
  have a9 := len_le 0 2
  simp [tcpHd, tcpOl]
  omega
theorem tcp_lens (H : Nat) (f o s k g n h m : Int) : (tcpOl f o s k g n h m).length = (tcpParts H).length ∧ (tcpParts H).length ≤ 100 ∧ ∀ l ∈ tcpOl f o s k g n h m, l.length ≤ 1000 := by
  refine ⟨rfl, by simp [tcpParts], ?_⟩
  intro l hl
  simp only [tcpOl, List.mem_cons, List.not_mem_nil, or_false] at hl
  rcases hl with rfl | rfl | rfl | rfl | rfl | rfl | rfl | rfl | rfl
  all_goals (refine Nat.le_trans (len_le _ _) ?_; omega)
def headCells (H : Nat) (f o s k g n : Int) (a d : Value) (h m u : Int) : List (Addr × Value) := [(⟨H, 0, none⟩, .int .i64 f), (⟨H, 1, none⟩, .int .i64 o), (⟨H, 2, none⟩, .int .i64 s), (⟨H, 3, none⟩, .int .i64 k), (⟨H, 4, none⟩, .int .i64 g), (⟨H, 5, none⟩, .int .i64 n), (⟨H, 6, none⟩, a), (⟨H, 7, none⟩, d), (⟨H, 8, none⟩, .int .i64 h), (⟨H, 9, none⟩, .int .i64 m), (⟨H, 10, none⟩, .int .i64 u)]
theorem head_new (w : World) (f o s k g n : Int) (a d : Value) (h m u : Int) (T : TypeId) : Mine w (headCells w.heap.size f o s k g n a d h m u) (w.alloc (.cells #[.int .i64 f, .int .i64 o, .int .i64 s, .int .i64 k, .int .i64 g, .int .i64 n, a, d, .int .i64 h, .int .i64 m, .int .i64 u] T)) := by
  refine ⟨World.grownBy_alloc _ _ _, ?_⟩
  intro x hx
  simp only [headCells, List.mem_cons, List.not_mem_nil, or_false] at hx
  rcases hx with rfl | rfl | rfl | rfl | rfl | rfl | rfl | rfl | rfl | rfl | rfl <;> exact ⟨by go_simp, by go_simp, by simp, rfl⟩
theorem head_out {w w' : World} (H : Nat) (f o s k g n : Int) (a d : Value) (h m : Int) (hm : Mine w (headCells H f o s k g n a d h m 0) w') :
    ∀ j (_ : j < (tcpParts H).length) (_ : j < (tcpOl f o s k g n h m).length), (tcpParts H)[j].out w' (tcpOl f o s k g n h m)[j] := by
  have c0 := hm.cell ⟨H, 0, none⟩ (.int .i64 f) (by simp [headCells])
  have c1 := hm.cell ⟨H, 1, none⟩ (.int .i64 o) (by simp [headCells])
  have c2 := hm.cell ⟨H, 2, none⟩ (.int .i64 s) (by simp [headCells])
  have c3 := hm.cell ⟨H, 3, none⟩ (.int .i64 k) (by simp [headCells])
  have c4 := hm.cell ⟨H, 4, none⟩ (.int .i64 g) (by simp [headCells])
  have c5 := hm.cell ⟨H, 5, none⟩ (.int .i64 n) (by simp [headCells])
  have c8 := hm.cell ⟨H, 8, none⟩ (.int .i64 h) (by simp [headCells])
  have c9 := hm.cell ⟨H, 9, none⟩ (.int .i64 m) (by simp [headCells])
  have c10 := hm.cell ⟨H, 10, none⟩ (.int .i64 0) (by simp [headCells])
  intro j hj _
  have hi : j = 0 ∨ j = 1 ∨ j = 2 ∨ j = 3 ∨ j = 4 ∨ j = 5 ∨ j = 6 ∨ j = 7 ∨ j = 8 := by simp [tcpParts] at hj; omega
  rcases hi with rfl | rfl | rfl | rfl | rfl | rfl | rfl | rfl | rfl
  · exact ⟨f, c0, rfl⟩
  · exact ⟨o, c1, rfl⟩
  · exact ⟨s, c2, rfl⟩
  · exact ⟨k, c3, rfl⟩
  · exact ⟨h, c8, rfl⟩
  · exact ⟨g, c4, rfl⟩
  · exact ⟨n, c5, rfl⟩
  · exact ⟨m, c9, rfl⟩
  · exact ⟨0, c10, rfl⟩
theorem head_store {w a' : World} {H : Nat} {f o s k g n : Int} {a d : Value} {h m : Int} (x : Int) (hm : Mine w (headCells H f o s k g n a d h m 0) a') : Mine w (headCells H f o s k g n a d h x 0) (a'.setCell ⟨H, 9, none⟩ (.int .i64 x)) := by
  have h1 := hm.set ⟨H, 9, none⟩ (.int .i64 m) (.int .i64 x) (by simp [headCells])
  have e : ((headCells H f o s k g n a d h m 0).map fun y => (y.1, if (⟨H, 9, none⟩ : Addr) = y.1 then Value.int .i64 x else y.2)) = headCells H f o s k g n a d h x 0 := by simp [headCells]
  rw [e] at h1
  exact h1

set_option maxRecDepth 100000 in
set_option maxHeartbeats 2000000 in
theorem tcp_impl (a b f o s k g n : Int) (p : Option Addr) (c : Nat) (l : List Rg) (d : List UInt8) (w : World) (h : RgAt w p l) : Calls Try.prog 6 #[.int .i64 a, .int .i64 b, tcpV f o s k g n p c l d] w (StrPost w (tcpL a b f o s k g n l d)) := by
  have hA := tcp_new w (.int .i64 f) (.int .i64 o) (.int .i64 s) (.int .i64 k) (.int .i64 g) (.int .i64 n) (.slice p l.length c) (.string ⟨d.toArray⟩) 26
  have HA := Lib.hid (And.intro hA (h.kept hA.grown))
  clear h hA
  cases ga : goesB a
  · have HN := Lib.hid (show tcpL a b f o s k g n l d = [] from if_neg (fun h => goes_not ga h.1))
    go_enter Try.func6, Try.ntmps6
    go_wp2_with (go_at_call 18; refine (goes_any _ _).mono ?_; rintro e w' ⟨rfl, rfl⟩; rw [ga])
    go_ret
    exact ⟨ret_s (a := []) HN.out.symm, HA.out.1.grown⟩
  · cases gb : goesB b
    · have HN := Lib.hid (show tcpL a b f o s k g n l d = [] from if_neg (fun h => goes_not gb h.2.1))
      go_enter Try.func6, Try.ntmps6
      go_wp2_with (go_at_call 18; refine (goes_any _ _).mono ?_; rintro e w' ⟨rfl, rfl⟩; first | rw [ga] | rw [gb])
      go_ret
      exact ⟨ret_s (a := []) HN.out.symm, HA.out.1.grown⟩
    · by_cases hok : tcpOk f o s k g n l d
      · have HD := Lib.hid (decide_eq_true hok)
        have hG : tcpG a b f o s k g n l d := ⟨goes_of ga, goes_of gb, hok⟩
        have HG := Lib.hid (And.intro hG (show tcpL a b f o s k g n l d = tcpT a b f o s k g n l d from if_pos hG))
        have hdl : d.length ≤ 200 := hok.1.2.2.2.2.2.2.2.2.2.2.2.2
        clear hok hG
        go_enter Try.func6, Try.ntmps6
        go_wp2_with (first
          | (go_at_call 18; refine (goes_any _ _).mono ?_; rintro e w' ⟨rfl, rfl⟩; first | rw [ga] | rw [gb]))
        refine (tcp_ok_impl _ _ _ _ _ _ _ _ _ _ _ HA.out.2).mono ?_
        rintro e w1 ⟨rfl, hg⟩
        rw [HD.out]
        have H1 := Lib.hid (And.intro (HA.out.1.kept hg) (HA.out.2.kept hg))
        clear hg HA
        obtain ⟨c0, c1, c2, c3, c4, c5, c6, c7⟩ := tcp_facts H1.out.1
        go_wp2_with fail
        refine (opt_impl _ _ _ _ H1.out.2 HG.out.1.2.2.2).mono ?_
        rintro e w2 ⟨rfl, hg⟩
        have H2 := Lib.hid (And.intro (H1.out.1.kept hg) (H1.out.2.kept hg))
        clear hg H1 c0 c1 c2 c3 c4 c5 c6 c7
        obtain ⟨c0, c1, c2, c3, c4, c5, c6, c7⟩ := tcp_facts H2.out.1
        have hq : (optL l).length ≤ 28 := by
          rw [optL_len l HG.out.1.2.2.2]
          have := HG.out.1.2.2.2.1
          split <;> omega
        have hw1 : wrap64 (20 + ((optL l).length : Int)) = 20 + ((optL l).length : Int) := wrap_small (by omega) (by omega)
        have hw2 : (20 + ((optL l).length : Int)).tdiv 4 = (20 + ((optL l).length : Int)) / 4 := Int.tdiv_eq_ediv_of_nonneg (by omega)
        have hw3 : wrap64 ((20 + ((optL l).length : Int)) / 4) = (20 + ((optL l).length : Int)) / 4 := wrap_small (by omega) (by omega)
        have hw4 : wrap64 ((20 + ((optL l).length : Int)) / 4 * 16) = (20 + ((optL l).length : Int)) / 4 * 16 := wrap_small (by omega) (by omega)
        have hlt : w.heap.size < w2.heap.size := cell_in c0
        have hkl : ¬ 9223372036854775807 < (optL l).length + d.length := by omega
        have h3 := (head_new w2 f o s k g n (.slice p l.length c) (.string ⟨d.toArray⟩) (aheadOf l) 0 0 44).base H2.out.1.grown
        have H3 := Lib.hid h3
        clear h3
        go_wp2_with fail
        change Calls _ _ _ (w2.alloc (.cells #[.int .i64 f, .int .i64 o, .int .i64 s, .int .i64 k, .int .i64 g, .int .i64 n, .slice p l.length c, .string ⟨d.toArray⟩, .int .i64 (aheadOf l), .int .i64 0, .int .i64 0] 44)) _
        generalize w2.alloc (.cells #[.int .i64 f, .int .i64 o, .int .i64 s, .int .i64 k, .int .i64 g, .int .i64 n, .slice p l.length c, .string ⟨d.toArray⟩, .int .i64 (aheadOf l), .int .i64 0, .int .i64 0] 44) = w3 at *
        refine (tcp_parts _ _).mono ?_
        rintro e w4 ⟨pb, pc, rfl, hpb, hg, hpc⟩
        have hsz3 : w2.heap.size < w3.heap.size := cell_in (H3.out.cell ⟨w2.heap.size, 0, none⟩ (.int .i64 f) (by simp [headCells]))
        have H4 := Lib.hid (And.intro (H3.out.kept hg) hpc)
        clear hg hpc c0 c1 c2 c3 c4 c5 c6 c7 hw1 hw2 hw3 hw4
        have hd0 := tcpHd_len f o s k g n (aheadOf l) 0
        have hd1 := tcpHd_len f o s k g n (aheadOf l) (tcpSm a b f o s k g n l d)
        have hk0 : ¬ 9223372036854775807 < (tcpHd f o s k g n (aheadOf l) 0).length + ((optL l).length + d.length) := by omega
        have hk1 : ¬ 9223372036854775807 < (tcpHd f o s k g n (aheadOf l) (tcpSm a b f o s k g n l d)).length + ((optL l).length + d.length) := by omega
        have HB := Lib.hid (show (tcpHd f o s k g n (aheadOf l) 0 ++ (optL l ++ d)).length ≤ 1000 by simp only [List.length_append]; omega)
        clear hd0 hd1
        go_wp2_with fail
        rw [ba_append]
        refine (put_as (tcpHd f o s k g n (aheadOf l) 0) _ _ (tcpParts w2.heap.size) (tcpOl f o s k g n (aheadOf l) 0) _ rfl (tcp_lens w2.heap.size _ _ _ _ _ _ _ _).1 (tcp_lens w2.heap.size f o s k g n 0 0).2.1 (tcp_lens w2.heap.size _ _ _ _ _ _ _ _).2.2 H4.out.2 (head_out _ _ _ _ _ _ _ _ _ _ _ H4.out.1)).mono ?_
        rintro e w5 ⟨rfl, hg⟩
        have H5 := Lib.hid (H4.out.1.kept hg)
        clear hg H4
        go_wp2_with fail
        rw [ba_append]
        refine (seg_impl _ _ _ _ HG.out.1.1 HG.out.1.2.1 HB.out).mono ?_
        rintro e w6 ⟨rfl, hg⟩
        rw [show segSum a b (tcpHd f o s k g n (aheadOf l) 0 ++ (optL l ++ d)) = tcpSm a b f o s k g n l d from rfl]
        have h6 := H5.out.kept hg
        have c9 := h6.cell ⟨w2.heap.size, 9, none⟩ (.int .i64 0) (by simp [headCells])
        have z9 := h6.free ⟨w2.heap.size, 9, none⟩ (.int .i64 0) (by simp [headCells])
        have H7 := Lib.hid (head_store (tcpSm a b f o s k g n l d) h6)
        clear hg H5 h6
        go_wp2_with fail
        generalize w6.setCell ⟨w2.heap.size, 9, none⟩ (.int .i64 (tcpSm a b f o s k g n l d)) = w7 at *
        refine (tcp_parts _ _).mono ?_
        rintro e w8 ⟨qb, qc, rfl, hqb, hg, hqc⟩
        have H8 := Lib.hid (And.intro (H7.out.kept hg) hqc)
        clear hg hqc H7 c9 z9
        go_wp2_with fail
        refine (put_as (tcpHd f o s k g n (aheadOf l) (tcpSm a b f o s k g n l d)) _ _ (tcpParts w2.heap.size) (tcpOl f o s k g n (aheadOf l) (tcpSm a b f o s k g n l d)) _ rfl (tcp_lens w2.heap.size _ _ _ _ _ _ _ _).1 (tcp_lens w2.heap.size f o s k g n 0 0).2.1 (tcp_lens w2.heap.size _ _ _ _ _ _ _ _).2.2 H8.out.2 (head_out _ _ _ _ _ _ _ _ _ _ _ H8.out.1)).mono ?_
        rintro e w9 ⟨rfl, hg⟩
        have H9 := Lib.hid (grownBy_trans H8.out.1.grown hg)
        clear hg H8
        go_wp2_with fail
        go_ret
        exact ⟨ret_ba (by rw [HG.out.2, tcpT, ba_append]), H9.out⟩
      · have HN := Lib.hid (show tcpL a b f o s k g n l d = [] from if_neg (fun h => hok h.2.2))
        have HD := Lib.hid (decide_eq_false hok)
        clear hok
        go_enter Try.func6, Try.ntmps6
        go_wp2_with (first
          | (go_at_call 18; refine (goes_any _ _).mono ?_; rintro e w' ⟨rfl, rfl⟩; first | rw [ga] | rw [gb]))
        refine (tcp_ok_impl _ _ _ _ _ _ _ _ _ _ _ HA.out.2).mono ?_
        rintro e w1 ⟨rfl, hg⟩
        rw [HD.out]
        have H1 := Lib.hid (grownBy_trans HA.out.1.grown hg)
        clear hg
        go_wp2_with fail
        go_ret
        exact ⟨ret_s (a := []) HN.out.symm, H1.out⟩

end Go.Proofs.Ythfhffcimjolgaa
