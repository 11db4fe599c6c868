/- Contracts of the model's ReadBlock: the same answers as the program's own. -/
import Derived.Test.YtbhbbmocioefnaaRdBlk
namespace Go.Proofs.Ytbhbbmocioefnaa
open Go.RowKit

theorem getN_four (l : List UInt8) (h : 1 ≤ l.length ∧ l.length ≤ 6) : getN l l.length = getBe l := (getBe_in l h).symm

set_option maxRecDepth 100000 in
theorem get2_any (l : List UInt8) (big : Bool) (w : World) (hl : 1 ≤ l.length ∧ l.length ≤ 6) : Calls Try.prog 35 #[.string ⟨l.toArray⟩, .bool big] w fun e w' => e = .returned (.int .i64 (numOf l big)) ∧ w.grownBy w' none := by
  have HL := Lib.hid hl
  clear hl
  cases big
  · have e1 : numOf l false = getN l.reverse l.length := by
      have := getN_four l.reverse (by rw [List.length_reverse]; exact HL.out)
      rw [List.length_reverse] at this
      exact this.symm
    have E1 := Lib.hid e1
    clear e1
    go_enter Try.func35, Try.ntmps35
    go_wp2_with fail
    refine (turn_any ⟨l.toArray⟩ _ (by rw [str_size]; have := HL.out; omega)).mono ?_
    rintro e w1 ⟨rfl, hg⟩
    have HG := Lib.hid hg
    clear hg
    go_wp2_with fail
    refine (get_spec1 ⟨l.reverse.toArray⟩ _ (by rw [str_size, List.length_reverse]; exact HL.out.2)).mono ?_
    rintro e w2 ⟨rfl, rfl⟩
    go_wp2_with fail
    go_ret
    exact ⟨ret_i E1.out.symm, HG.out⟩
  · have E1 := Lib.hid (getN_four l HL.out)
    go_enter Try.func35, Try.ntmps35
    go_wp2_with fail
    refine (get_spec1 ⟨l.toArray⟩ _ (by rw [str_size]; exact HL.out.2)).mono ?_
    rintro e w2 ⟨rfl, rfl⟩
    go_wp2_with fail
    go_ret
    exact ⟨ret_i E1.out, World.grownBy.refl _ _⟩

theorem four_len (t : List UInt8) (a : Nat) (h : a + 4 ≤ t.length) : ((t.drop a).take 4).length = 4 := by simp; omega

set_option maxRecDepth 100000 in
theorem spec_n1 (t : List UInt8) (big : Bool) (w : World) (h : t.length < 12) : Calls Try.prog 36 #[.string ⟨t.toArray⟩, .bool big] w (ReadNo w) := by
  have hi : (t.length : Int) < 12 := by omega
  go_enter Try.func36, Try.ntmps36
  go_wp2_with fail
  exact bodyPost_ret (v := .tuple #[.agg #[.int .i64 0, .string ⟨#[]⟩], .int .i64 0, .bool false]) (by simp [results, Try.results36, go_sem]) rfl ⟨rfl, World.grownBy_alloc _ _ _⟩

set_option maxRecDepth 100000 in
theorem spec_n2 (t : List UInt8) (big : Bool) (w : World) (h : 12 ≤ t.length) (hs : inB (sizeOf t big) 12 t.length = false) : Calls Try.prog 36 #[.string ⟨t.toArray⟩, .bool big] w (ReadNo w) := by
  have hi : 12 ≤ (t.length : Int) := by omega
  have hi8 : 8 ≤ (t.length : Int) := by omega
  have hx := extract_mid t 4 8 (by omega)
  have HX := Lib.hid (And.intro hx hs)
  clear hx hs
  go_enter Try.func36, Try.ntmps36
  go_wp2_with fail
  rw [HX.out.1]
  refine (get2_any ((t.drop 4).take 4) big _ (by rw [four_len t 4 (by omega)]; omega)).mono ?_
  rintro e w1 ⟨rfl, hg⟩
  have s0 := hg.cell (a := ⟨w.heap.size, 0, none⟩) (v := .int .i64 0) (by go_simp) (by simp)
  have s1 := hg.cell (a := ⟨w.heap.size, 1, none⟩) (v := .string ⟨#[]⟩) (by go_simp) (by simp)
  have f0 := grown_frozen hg (p := ⟨w.heap.size, 0, none⟩) (v := .int .i64 0) (by go_simp) (by simp) (x := false) (by go_simp)
  have f1 := grown_frozen hg (p := ⟨w.heap.size, 1, none⟩) (v := .string ⟨#[]⟩) (by go_simp) (by simp) (x := false) (by go_simp)
  have HG := Lib.hid (grownBy_trans (World.grownBy_alloc _ _ _) hg)
  clear hg
  go_wp2_with fail
  refine (in_any _ _ _ _).mono ?_
  rintro e w' ⟨rfl, rfl⟩
  rw [show inB (numOf ((t.drop 4).take 4) big) 12 t.length = false from HX.out.2]
  go_wp2_with fail
  have hW : w1.grownBy ((w1.setCell ⟨w.heap.size, 0, none⟩ (.int .i64 0)).setCell ⟨w.heap.size, 1, none⟩ (.string ⟨#[]⟩)) (some w.heap.size) := grownBy_trans (grownBy_set _ _ _ _) (grownBy_set _ _ _ _)
  exact bodyPost_ret (v := .tuple #[.agg #[.int .i64 0, .string ⟨#[]⟩], .int .i64 0, .bool false]) (by simp [results, Try.results36, go_sem, s0, s1]) rfl ⟨rfl, grownBy_new HG.out hW (Nat.le_refl _)⟩

set_option maxRecDepth 100000 in
set_option maxHeartbeats 1000000 in
theorem spec_n3 (t : List UInt8) (big : Bool) (q : Nat) (w : World) (hs : sizeOf t big = (q : Int) + 12) (hl : q + 12 ≤ t.length) (h4 : q % 4 ≠ 0) : Calls Try.prog 36 #[.string ⟨t.toArray⟩, .bool big] w (ReadNo w) := by
  have a1 : (((q : Int) + 12) % 4 != 0) = true := by simp; omega
  have a2 : ((q : Int) % 4 != 0) = true := by simp; omega
  have hi : 12 ≤ (t.length : Int) := by omega
  have hi8 : 8 ≤ (t.length : Int) := by omega
  have hin : inB ((q : Int) + 12) 12 t.length = true := by unfold inB; simp; omega
  have hx := extract_mid t 4 8 (by omega)
  have hx2 := extract_mid t (q + 8) (q + 12) (by omega)
  have HX := Lib.hid (And.intro hx (And.intro hs hx2))
  clear hx hs hx2
  go_enter Try.func36, Try.ntmps36
  go_wp2_with fail
  rw [HX.out.1]
  refine (get2_any ((t.drop 4).take 4) big _ (by rw [four_len t 4 (by omega)]; omega)).mono ?_
  rintro e w1 ⟨rfl, hg⟩
  rw [show numOf ((t.drop 4).take 4) big = (q : Int) + 12 from HX.out.2.1]
  have s0 := hg.cell (a := ⟨w.heap.size, 0, none⟩) (v := .int .i64 0) (by go_simp) (by simp)
  have s1 := hg.cell (a := ⟨w.heap.size, 1, none⟩) (v := .string ⟨#[]⟩) (by go_simp) (by simp)
  have f0 := grown_frozen hg (p := ⟨w.heap.size, 0, none⟩) (v := .int .i64 0) (by go_simp) (by simp) (x := false) (by go_simp)
  have f1 := grown_frozen hg (p := ⟨w.heap.size, 1, none⟩) (v := .string ⟨#[]⟩) (by go_simp) (by simp) (x := false) (by go_simp)
  have HG := Lib.hid (grownBy_trans (World.grownBy_alloc _ _ _) hg)
  clear hg
  go_wp2_with (go_at_call 67; refine (in_any _ _ _ _).mono ?_; rintro e w' ⟨rfl, rfl⟩)
  have hW : w1.grownBy ((w1.setCell ⟨w.heap.size, 0, none⟩ (.int .i64 0)).setCell ⟨w.heap.size, 1, none⟩ (.string ⟨#[]⟩)) (some w.heap.size) := grownBy_trans (grownBy_set _ _ _ _) (grownBy_set _ _ _ _)
  exact bodyPost_ret (v := .tuple #[.agg #[.int .i64 0, .string ⟨#[]⟩], .int .i64 0, .bool false]) (by simp [results, Try.results36, go_sem, s0, s1]) rfl ⟨rfl, grownBy_new HG.out hW (Nat.le_refl _)⟩

set_option maxRecDepth 100000 in
set_option maxHeartbeats 1000000 in
theorem spec_n4 (t : List UInt8) (big : Bool) (q : Nat) (w : World) (hs : sizeOf t big = (q : Int) + 12) (hl : q + 12 ≤ t.length) (h4 : q % 4 = 0) (h8 : 800 < q) : Calls Try.prog 36 #[.string ⟨t.toArray⟩, .bool big] w (ReadNo w) := by
  have a1 : (((q : Int) + 12) % 4 != 0) = false := by simp; omega
  have a2 : ((q : Int) % 4 != 0) = false := by simp; omega
  have a3 : (((q : Int) + 12) % 4 == 0) = true := by simp; omega
  have hi : 12 ≤ (t.length : Int) := by omega
  have hi8 : 8 ≤ (t.length : Int) := by omega
  have hin : inB ((q : Int) + 12) 12 t.length = true := by unfold inB; simp; omega
  have hx := extract_mid t 4 8 (by omega)
  have hx2 := extract_mid t (q + 8) (q + 12) (by omega)
  have HX := Lib.hid (And.intro hx (And.intro hs hx2))
  clear hx hs hx2
  go_enter Try.func36, Try.ntmps36
  go_wp2_with fail
  rw [HX.out.1]
  refine (get2_any ((t.drop 4).take 4) big _ (by rw [four_len t 4 (by omega)]; omega)).mono ?_
  rintro e w1 ⟨rfl, hg⟩
  rw [show numOf ((t.drop 4).take 4) big = (q : Int) + 12 from HX.out.2.1]
  have s0 := hg.cell (a := ⟨w.heap.size, 0, none⟩) (v := .int .i64 0) (by go_simp) (by simp)
  have s1 := hg.cell (a := ⟨w.heap.size, 1, none⟩) (v := .string ⟨#[]⟩) (by go_simp) (by simp)
  have f0 := grown_frozen hg (p := ⟨w.heap.size, 0, none⟩) (v := .int .i64 0) (by go_simp) (by simp) (x := false) (by go_simp)
  have f1 := grown_frozen hg (p := ⟨w.heap.size, 1, none⟩) (v := .string ⟨#[]⟩) (by go_simp) (by simp) (x := false) (by go_simp)
  have HG := Lib.hid (grownBy_trans (World.grownBy_alloc _ _ _) hg)
  clear hg
  go_wp2_with (go_at_call 67; refine (in_any _ _ _ _).mono ?_; rintro e w' ⟨rfl, rfl⟩)
  have hW : w1.grownBy ((w1.setCell ⟨w.heap.size, 0, none⟩ (.int .i64 0)).setCell ⟨w.heap.size, 1, none⟩ (.string ⟨#[]⟩)) (some w.heap.size) := grownBy_trans (grownBy_set _ _ _ _) (grownBy_set _ _ _ _)
  exact bodyPost_ret (v := .tuple #[.agg #[.int .i64 0, .string ⟨#[]⟩], .int .i64 0, .bool false]) (by simp [results, Try.results36, go_sem, s0, s1]) rfl ⟨rfl, grownBy_new HG.out hW (Nat.le_refl _)⟩

set_option maxRecDepth 100000 in
set_option maxHeartbeats 1000000 in
theorem spec_n5 (t : List UInt8) (big : Bool) (q : Nat) (w : World) (hs : sizeOf t big = (q : Int) + 12) (hl : q + 12 ≤ t.length) (h4 : q % 4 = 0) (h8 : q ≤ 800) (hn : numOf ((t.drop (8 + q)).take 4) big ≠ (q : Int) + 12) : Calls Try.prog 36 #[.string ⟨t.toArray⟩, .bool big] w (ReadNo w) := by
  have a1 : (((q : Int) + 12) % 4 != 0) = false := by simp; omega
  have a2 : ((q : Int) % 4 != 0) = false := by simp; omega
  have a3 : (((q : Int) + 12) % 4 == 0) = true := by simp; omega
  have HN := Lib.hid hn
  clear hn
  have hi : 12 ≤ (t.length : Int) := by omega
  have hi8 : 8 ≤ (t.length : Int) := by omega
  have hin : inB ((q : Int) + 12) 12 t.length = true := by unfold inB; simp; omega
  have hx := extract_mid t 4 8 (by omega)
  have hx2 := extract_mid t (q + 8) (q + 12) (by omega)
  have HX := Lib.hid (And.intro hx (And.intro hs hx2))
  clear hx hs hx2
  go_enter Try.func36, Try.ntmps36
  go_wp2_with fail
  rw [HX.out.1]
  refine (get2_any ((t.drop 4).take 4) big _ (by rw [four_len t 4 (by omega)]; omega)).mono ?_
  rintro e w1 ⟨rfl, hg⟩
  rw [show numOf ((t.drop 4).take 4) big = (q : Int) + 12 from HX.out.2.1]
  have s0 := hg.cell (a := ⟨w.heap.size, 0, none⟩) (v := .int .i64 0) (by go_simp) (by simp)
  have s1 := hg.cell (a := ⟨w.heap.size, 1, none⟩) (v := .string ⟨#[]⟩) (by go_simp) (by simp)
  have f0 := grown_frozen hg (p := ⟨w.heap.size, 0, none⟩) (v := .int .i64 0) (by go_simp) (by simp) (x := false) (by go_simp)
  have f1 := grown_frozen hg (p := ⟨w.heap.size, 1, none⟩) (v := .string ⟨#[]⟩) (by go_simp) (by simp) (x := false) (by go_simp)
  have HG := Lib.hid (grownBy_trans (World.grownBy_alloc _ _ _) hg)
  clear hg
  go_wp2_with (go_at_call 67; refine (in_any _ _ _ _).mono ?_; rintro e w' ⟨rfl, rfl⟩)
  rw [HX.out.2.2]
  refine (get2_any ((t.drop (q + 8)).take (q + 12 - (q + 8))) big _ (by rw [show q + 12 - (q + 8) = 4 from by omega, four_len t (q + 8) (by omega)]; omega)).mono ?_
  rintro e w2 ⟨rfl, hg⟩
  have e8 : numOf ((t.drop (q + 8)).take (q + 12 - (q + 8))) big = numOf ((t.drop (8 + q)).take 4) big := by rw [show q + 12 - (q + 8) = 4 from by omega, Nat.add_comm q 8]
  rw [e8]
  have z0 := hg.cell s0 (by simp)
  have z1 := hg.cell s1 (by simp)
  have x0 := grown_frozen hg s0 (by simp) f0
  have x1 := grown_frozen hg s1 (by simp) f1
  have HG2 := Lib.hid (grownBy_trans HG.out hg)
  clear hg s0 s1 f0 f1 e8
  have hne : (numOf ((t.drop (8 + q)).take 4) big != (q : Int) + 12) = true := by
    have := HN.out
    simpa using this
  go_wp2_with fail
  have hW : w2.grownBy ((w2.setCell ⟨w.heap.size, 0, none⟩ (.int .i64 0)).setCell ⟨w.heap.size, 1, none⟩ (.string ⟨#[]⟩)) (some w.heap.size) := grownBy_trans (grownBy_set _ _ _ _) (grownBy_set _ _ _ _)
  exact bodyPost_ret (v := .tuple #[.agg #[.int .i64 0, .string ⟨#[]⟩], .int .i64 0, .bool false]) (by simp [results, Try.results36, go_sem, z0, z1]) rfl ⟨rfl, grownBy_new HG2.out hW (Nat.le_refl _)⟩

set_option maxRecDepth 100000 in
set_option maxHeartbeats 1000000 in
theorem spec_yes (t : List UInt8) (big : Bool) (q : Nat) (w : World) (hs : sizeOf t big = (q : Int) + 12) (hl : q + 12 ≤ t.length) (h4 : q % 4 = 0) (h8 : q ≤ 800) (hn : numOf ((t.drop (8 + q)).take 4) big = (q : Int) + 12) : Calls Try.prog 36 #[.string ⟨t.toArray⟩, .bool big] w (ReadYes w t big q) := by
  have a1 : (((q : Int) + 12) % 4 != 0) = false := by simp; omega
  have a2 : ((q : Int) % 4 != 0) = false := by simp; omega
  have a3 : (((q : Int) + 12) % 4 == 0) = true := by simp; omega
  have HN := Lib.hid hn
  clear hn
  have hi : 12 ≤ (t.length : Int) := by omega
  have hi8 : 8 ≤ (t.length : Int) := by omega
  have hin : inB ((q : Int) + 12) 12 t.length = true := by unfold inB; simp; omega
  have hx := extract_mid t 4 8 (by omega)
  have hx2 := extract_mid t (q + 8) (q + 12) (by omega)
  have HX := Lib.hid (And.intro hx (And.intro hs hx2))
  clear hx hs hx2
  go_enter Try.func36, Try.ntmps36
  go_wp2_with fail
  rw [HX.out.1]
  refine (get2_any ((t.drop 4).take 4) big _ (by rw [four_len t 4 (by omega)]; omega)).mono ?_
  rintro e w1 ⟨rfl, hg⟩
  rw [show numOf ((t.drop 4).take 4) big = (q : Int) + 12 from HX.out.2.1]
  have s0 := hg.cell (a := ⟨w.heap.size, 0, none⟩) (v := .int .i64 0) (by go_simp) (by simp)
  have s1 := hg.cell (a := ⟨w.heap.size, 1, none⟩) (v := .string ⟨#[]⟩) (by go_simp) (by simp)
  have f0 := grown_frozen hg (p := ⟨w.heap.size, 0, none⟩) (v := .int .i64 0) (by go_simp) (by simp) (x := false) (by go_simp)
  have f1 := grown_frozen hg (p := ⟨w.heap.size, 1, none⟩) (v := .string ⟨#[]⟩) (by go_simp) (by simp) (x := false) (by go_simp)
  have HG := Lib.hid (grownBy_trans (World.grownBy_alloc _ _ _) hg)
  clear hg
  go_wp2_with (go_at_call 67; refine (in_any _ _ _ _).mono ?_; rintro e w' ⟨rfl, rfl⟩)
  rw [HX.out.2.2]
  refine (get2_any ((t.drop (q + 8)).take (q + 12 - (q + 8))) big _ (by rw [show q + 12 - (q + 8) = 4 from by omega, four_len t (q + 8) (by omega)]; omega)).mono ?_
  rintro e w2 ⟨rfl, hg⟩
  have e8 : numOf ((t.drop (q + 8)).take (q + 12 - (q + 8))) big = numOf ((t.drop (8 + q)).take 4) big := by rw [show q + 12 - (q + 8) = 4 from by omega, Nat.add_comm q 8]
  rw [e8]
  have z0 := hg.cell s0 (by simp)
  have z1 := hg.cell s1 (by simp)
  have x0 := grown_frozen hg s0 (by simp) f0
  have x1 := grown_frozen hg s1 (by simp) f1
  have HG2 := Lib.hid (grownBy_trans HG.out hg)
  clear hg s0 s1 f0 f1 e8
  rw [HN.out]
  have hx4 := extract_mid t 0 4 (by omega)
  have HX4 := Lib.hid hx4
  clear hx4
  have hi4 : 4 ≤ (t.length : Int) := by omega
  have hj1 : (q : Int) + 8 ≤ (t.length : Int) := by omega
  have hj2 : 8 ≤ (q : Int) + 8 := by omega
  have hj3 : (q : Int) + 12 - 4 = (q : Int) + 8 := by omega
  have hj4 : IntKind.i64.wrap ((q : Int) + 8) = (q : Int) + 8 := IntWalk.i64_in _ (by omega)
  have hj6 : IntKind.i64.wrap ((q : Int) + 12 - 4) = (q : Int) + 8 := by rw [hj3]; exact hj4
  have hj7 : 0 ≤ (q : Int) + 8 := by omega
  have hj5 : ((q : Int) + 8).toNat = q + 8 := by omega
  go_wp2_with fail
  go_region_held3 (fun w' => (w'.cell? ⟨w.heap.size, 0, none⟩).isSome = true ∧ (w'.cell? ⟨w.heap.size, 1, none⟩).isSome = true ∧ w'.frozen? ⟨w.heap.size, 0, none⟩ = false ∧ w'.frozen? ⟨w.heap.size, 1, none⟩ = false ∧ w2.grownBy w' (some w.heap.size)) ((refine ⟨by first | (simp [*]; done) | (go_simp; done), by first | (simp [*]; done) | (go_simp; done), by first | assumption | (simp [*]; done) | (go_simp; done), by first | assumption | (simp [*]; done) | (go_simp; done), by first | assumption | exact grownBy_drew | exact grownBy_trans (by assumption) (grownBy_trans (grownBy_set _ _ _ _) (grownBy_set _ _ _ _))⟩))
    (first | (go_at_call 35; rw [HX4.out]; refine (get2_any _ big _ (by simp; omega)).mono ?_; rintro e w3 ⟨rfl, hg⟩; have q0 := hg.cell (a := ⟨w.heap.size, 0, none⟩) (v := .int .i64 0) (by assumption) (by simp); have q1 := hg.cell (a := ⟨w.heap.size, 1, none⟩) (v := .string ⟨#[]⟩) (by assumption) (by simp); have q3 : w3.frozen? ⟨w.heap.size, 0, none⟩ = false := grown_frozen hg (p := ⟨w.heap.size, 0, none⟩) (v := .int .i64 0) (by assumption) (by simp) x0; have q4 : w3.frozen? ⟨w.heap.size, 1, none⟩ = false := grown_frozen hg (p := ⟨w.heap.size, 1, none⟩) (v := .string ⟨#[]⟩) (by assumption) (by simp) x1; have q2 := grown_some (r := w.heap.size) (grownBy_trans (grownBy_drew (r := none)) hg)))
  go_wp2_with fail
  refine bodyPost_ret (v := .tuple #[.agg #[.int .i64 (numOf (t.take 4) big), .string ((⟨t.toArray⟩ : ByteArray).extract 8 (q + 8))], .int .i64 ((q : Int) + 12), .bool true]) (by simp [results, Try.results36, go_sem, q0, q1]) rfl ⟨?_, ?_⟩
  · rw [extract_mid t 8 (q + 8) (by omega), show q + 8 - 8 = q from by omega]
  · exact grownBy_new HG2.out (grownBy_trans q2 (grownBy_trans (grownBy_set _ _ _ _) (grownBy_set _ _ _ _))) (Nat.le_refl _)

theorem right_none (t : List UInt8) (big : Bool) (h : t.length < 12) : ∀ q, ¬ Right t big q := fun q hR => by have := hR.here; omega

/-- The model's answer where no right block is there. -/
theorem spec_no (t : List UInt8) (big : Bool) (w : World) (hN : ∀ q, ¬ Right t big q) : Calls Try.prog 36 #[.string ⟨t.toArray⟩, .bool big] w (ReadNo w) := by
  by_cases h12 : t.length < 12
  · exact spec_n1 t big w h12
  · cases hin : inB (sizeOf t big) 12 t.length
    · exact spec_n2 t big w (by omega) hin
    · have hi := in_of hin
      obtain ⟨q, hq⟩ := Int.eq_ofNat_of_zero_le (show 0 ≤ sizeOf t big - 12 by omega)
      have hs : sizeOf t big = (q : Int) + 12 := by omega
      by_cases h4 : q % 4 = 0
      · by_cases h8 : q ≤ 800
        · by_cases hn : numOf ((t.drop (8 + q)).take 4) big = (q : Int) + 12
          · exact absurd ⟨hs, h4, h8, by omega, hn⟩ (hN q)
          · exact spec_n5 t big q w hs (by omega) h4 h8 hn
        · exact spec_n4 t big q w hs (by omega) h4 (by omega)
      · exact spec_n3 t big q w hs (by omega) h4

end Go.Proofs.Ytbhbbmocioefnaa
