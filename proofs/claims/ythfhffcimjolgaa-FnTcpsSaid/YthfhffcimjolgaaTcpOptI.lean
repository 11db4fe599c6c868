/- What is told of ranges: the program's bytes. -/
import Derived.Test.YthfhffcimjolgaaTcpOpt
import Derived.Test.YthfhffcimjolgaaPart
import Derived.Deep.RegionWith
namespace Go.Proofs.Ythfhffcimjolgaa
open Go.RowKit

def SkRel (w : World) (l : List Rg) (i : Value) (wr : World) : Prop :=
  ∃ j : Nat, j ≤ l.length ∧ i = .int .i64 j ∧ w.grownBy wr none ∧ w.heap.size ≤ wr.heap.size ∧ Lib.IsBuilder 69 5 w.heap.size w.heap.size (Lib.byteCells (optHead l.length ++ (l.take j).flatMap rgL)) wr

set_option maxRecDepth 100000 in
set_option maxHeartbeats 1000000 in
theorem opt_impl (a : Option Addr) (c : Nat) (l : List Rg) (w : World) (h : RgAt w a l) (hp : sackP l) : Calls Try.prog 19 #[.slice a l.length c] w (StrPost w (optL l)) := by
  have H := Lib.hid (And.intro h hp)
  clear h
  by_cases h0 : l = []
  · subst h0
    go_enter Try.func19, Try.ntmps19
    go_wp2_with fail
    go_ret
    exact ⟨ret_s (a := []) rfl, by first | exact World.grownBy.refl _ _ | exact World.grownBy_alloc _ _ _⟩
  · have hl0 : (l.length == 0) = false := by simpa using h0
    have hn : 0 < l.length := by
      cases l with
      | nil => exact absurd rfl h0
      | cons _ _ => simp
    have hn3 := hp.1
    have hw1 : IntKind.i64.wrap (8 * (l.length : Int)) = 8 * (l.length : Int) := IntWalk.i64_in _ (by omega)
    have hw2 : IntKind.i64.wrap (2 + 8 * (l.length : Int)) = 2 + 8 * (l.length : Int) := IntWalk.i64_in _ (by omega)
    have l1 := one_len 1 (by omega) (by omega)
    have l5 := one_len 5 (by omega) (by omega)
    have HE := Lib.hid (show optL l = optHead l.length ++ l.flatMap rgL from if_neg h0)
    clear hp h0
    go_enter Try.func19, Try.ntmps19
    have hb := Lib.fresh_isBuilder 69 5 w
    have hg1 := World.grownBy_alloc w (.cells #[.pointer none, .slice none 0 0] 69) none
    have H1 := Lib.hid (And.intro hb hg1)
    clear hb hg1
    go_wp2_with fail
    refine (put_be_impl _ _ _).mono ?_
    rintro e w2 ⟨rfl, hg⟩
    have H2 := Lib.hid (And.intro (bld_kept H1.out.1 hg) (grownBy_trans H1.out.2 hg))
    clear hg H1
    go_wp2_with fail
    refine (put_be_impl _ _ _).mono ?_
    rintro e w3 ⟨rfl, hg⟩
    have H3 := Lib.hid (And.intro (bld_kept H2.out.1 hg) (grownBy_trans H2.out.2 hg))
    clear hg H2
    go_wp2_with fail
    refine (put_be_impl _ _ _).mono ?_
    rintro e w4 ⟨rfl, hg⟩
    have H4 := Lib.hid (And.intro (bld_kept H3.out.1 hg) (grownBy_trans H3.out.2 hg))
    clear hg H3
    go_wp2_with fail
    rw [ba_append, ba_append]
    refine (write_any w.heap.size w.heap.size (Lib.byteCells []) _ _ H4.out.1 (by rw [str_size]; simp only [List.length_append, l1, l5]; simp [Lib.byteCells]) (bld_at H4.out.1)).mono ?_
    rintro e w5 ⟨rfl, hbld, hbel⟩
    have H5 := Lib.hid (And.intro (bld_said hbld) (grow_below H4.out.2 hbel (Nat.le_refl _)))
    clear hbld hbel H4
    go_wp2_with fail
    refine (put_be_impl _ _ _).mono ?_
    rintro e w6 ⟨rfl, hg⟩
    have H6 := Lib.hid (And.intro (bld_kept H5.out.1 hg) (grownBy_trans H5.out.2 hg))
    clear hg H5
    go_wp2_with fail
    refine (write_any w.heap.size w.heap.size _ _ _ H6.out.1 (by rw [str_size, Lib.byteCells_length]; have := len_le (2 + 8 * (l.length : Int)) 1; simp only [List.nil_append, List.length_append, l1, l5]; omega) (bld_at H6.out.1)).mono ?_
    rintro e w7 ⟨rfl, hbld, hbel⟩
    have hsaid := bld_said hbld
    have he7 : ([] ++ (putL 1 1 ++ putL 1 1 ++ putL 5 1) ++ putL (2 + 8 * (l.length : Int)) 1) = optHead l.length ++ (l.take 0).flatMap rgL := by simp [optHead]
    rw [he7] at hsaid
    have H7 := Lib.hid (And.intro hsaid (grow_below H6.out.2 hbel (Nat.le_refl _)))
    clear hbld hbel H6 hsaid he7
    go_wp2_with fail
    go_loopw [23] (fun i wr => SkRel w l i wr) (fun i _ => l.length - (intOf i).toNat)
    case atStart => exact ⟨0, Nat.zero_le _, rfl, H7.out.2, H7.out.2.size, H7.out.1⟩
    case round =>
      obtain ⟨j, hj, rfl, hg, hsz, hbld⟩ := hrel
      have HS := Lib.hid (And.intro hbld (And.intro hg hsz))
      clear hg hbld hsz
      by_cases hlt : j < l.length
      · rcases (H.out.1.kept HS.out.2.1) with h0 | ⟨b, off, rfl, hb, hc⟩
        · rw [h0] at hlt
          simp at hlt
        · obtain ⟨c0, c1⟩ := hc j hlt
          clear hc
          have hx := H.out.2.2 l[j] (List.getElem_mem hlt)
          have HN := Lib.hid (rgs_next l j hlt)
          have HT := Lib.hid (show (optHead l.length ++ (l.take j).flatMap rgL).length ≤ 28 by
            rw [List.length_append, optHead_len _ hn3, rgs_len _ (take_ok H.out.2.2 j), List.length_take]
            omega)
          generalize l[j] = x at *
          obtain ⟨u, v⟩ := x
          obtain ⟨x1, x2, x3, x4⟩ := hx
          simp only at x1 x2 x3 x4
          have lu := four_len u x1 x2
          have lv := four_len v x3 x4
          have hlt' : (j : Int) < (l.length : Int) := by omega
          have HA := Lib.hid (World.grownBy_alloc wr (.cells #[.int .i64 u, .int .i64 v] 61) none)
          clear x1 x2 x3 x4 hw1 hw2 l1 l5
          go_wp2_with fail
          have d0 : (wr.alloc (.cells #[.int .i64 u, .int .i64 v] 61)).drew.cell? ⟨wr.heap.size, 0, none⟩ = some (.int .i64 u) := by go_simp
          have d1 : (wr.alloc (.cells #[.int .i64 u, .int .i64 v] 61)).drew.cell? ⟨wr.heap.size, 1, none⟩ = some (.int .i64 v) := by go_simp
          generalize wr.alloc (.cells #[.int .i64 u, .int .i64 v] 61) = w8 at *
          go_region_with (first
            | (go_at_call 42; refine (put_be_impl _ _ _).mono ?_; rintro e w9 ⟨rfl, hg⟩; have q0 := hg.cell (a := ⟨wr.heap.size, 0, none⟩) (v := .int .i64 u) (by assumption) (by simp); have q1 := hg.cell (a := ⟨wr.heap.size, 1, none⟩) (v := .int .i64 v) (by assumption) (by simp); have qg : w8.grownBy w9 none := by first | exact grownBy_trans grownBy_drew hg | exact grownBy_trans (by assumption) hg)
            | (go_at_call 41; rw [ba_append]; refine (write_any w.heap.size w.heap.size _ _ _ (bld_kept HS.out.1 (grownBy_trans HA.out qg)) (by rw [str_size, Lib.byteCells_length]; have := HT.out; simp only [List.length_append, lu, lv] at this ⊢; omega) (bld_at (bld_kept HS.out.1 (grownBy_trans HA.out qg)))).mono ?_; rintro e w10 ⟨rfl, hbld, hbel⟩; have hg10 := grow_below (grownBy_trans HS.out.2.1 (grownBy_trans HA.out qg)) hbel (Nat.le_refl _); have hsaid := bld_said hbld; clear hbld hbel))
          all_goals
            rw [List.append_assoc, ← HN.out] at hsaid
            have HW := Lib.hid (And.intro hsaid hg10)
            clear hsaid hg10
            go_wp2_with fail
            go_roundw
            case rel => exact ⟨j + 1, hlt, by go_num, HW.out.2, HW.out.2.size, HW.out.1⟩
            case measure => simp [intOf]; omega
      · obtain rfl : j = l.length := by omega
        go_wp2_with fail
        refine (string_any w.heap.size w.heap.size _ _ HS.out.1 (bld_at HS.out.1)).mono ?_
        rintro e w9 ⟨rfl, hbel⟩
        have H9 := Lib.hid (grow_below HS.out.2.1 hbel (Nat.le_refl _))
        clear hbel
        go_wp2_with fail
        go_ret
        exact ⟨ret_s (by rw [HE.out]), H9.out⟩

end Go.Proofs.Ythfhffcimjolgaa
