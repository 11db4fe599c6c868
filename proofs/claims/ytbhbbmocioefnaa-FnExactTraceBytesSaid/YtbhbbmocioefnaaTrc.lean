/- The program's writing of a trace: its heads, the body of a packet, and whether packets are right. -/
import Derived.Test.YtbhbbmocioefnaaBld
import Derived.Test.YtbhbbmocioefnaaDrawBlk
namespace Go.Proofs.Ytbhbbmocioefnaa
open Go.RowKit

def headB (big : Bool) : List UInt8 := numL 439041101 4 big ++ numL 1 2 big ++ numL 0 2 big ++ List.replicate 8 255
def linkB (big : Bool) : List UInt8 := numL 1 2 big ++ numL 0 2 big ++ numL 400 4 big
def bodyB (t : Int) (l : List UInt8) (big : Bool) : List UInt8 := numL 0 4 big ++ (numL (t / 4294967296) 4 big ++ numL (t % 4294967296) 4 big) ++ numL l.length 4 big ++ numL l.length 4 big ++ padL l

set_option maxRecDepth 100000 in
set_option maxHeartbeats 1000000 in
theorem head_impl (big : Bool) (w : World) : Calls Try.prog 25 #[.bool big] w (StrPost w (headB big)) := by
  have hn1 := numL_len 439041101 4 big
  have hn2 := numL_len 1 2 big
  have hn3 := numL_len 0 2 big
  have hk1 : ¬ 9223372036854775807 < (numL 439041101 4 big).length + (numL 1 2 big).length := by omega
  have hk2 : ¬ 9223372036854775807 < (numL 439041101 4 big).length + (numL 1 2 big).length + (numL 0 2 big).length := by omega
  have hk3 : ¬ 9223372036854775807 < (numL 439041101 4 big).length + (numL 1 2 big).length + (numL 0 2 big).length + 8 := by omega
  go_enter Try.func25, Try.ntmps25
  go_wp2_with fail
  refine (number_any _ _ _ _).mono ?_
  rintro e w1 ⟨rfl, hg⟩
  have H1 := Lib.hid (hg)
  clear hg
  go_wp2_with fail
  refine (number_any _ _ _ _).mono ?_
  rintro e w2 ⟨rfl, hg⟩
  have H2 := Lib.hid (grownBy_trans H1.out hg)
  clear hg
  go_wp2_with fail
  refine (number_any _ _ _ _).mono ?_
  rintro e w3 ⟨rfl, hg⟩
  have H3 := Lib.hid (grownBy_trans H2.out hg)
  clear hg
  go_wp2_with fail
  refine (repeat_one 255 8 _ (by omega)).mono ?_
  rintro e w4 ⟨rfl, hg⟩
  have H4 := Lib.hid (grownBy_trans H3.out hg)
  clear hg
  go_wp2_with fail
  go_ret
  exact ⟨ret_ba (by rw [headB, ba_append, ba_append]; rfl), H4.out⟩

set_option maxRecDepth 100000 in
set_option maxHeartbeats 1000000 in
theorem link_impl (big : Bool) (w : World) : Calls Try.prog 26 #[.bool big] w (StrPost w (linkB big)) := by
  have hn1 := numL_len 1 2 big
  have hn2 := numL_len 0 2 big
  have hn3 := numL_len 400 4 big
  have hk1 : ¬ 9223372036854775807 < (numL 1 2 big).length + (numL 0 2 big).length := by omega
  have hk2 : ¬ 9223372036854775807 < (numL 1 2 big).length + (numL 0 2 big).length + (numL 400 4 big).length := by omega
  go_enter Try.func26, Try.ntmps26
  go_wp2_with fail
  refine (number_any _ _ _ _).mono ?_
  rintro e w1 ⟨rfl, hg⟩
  have H1 := Lib.hid (hg)
  clear hg
  go_wp2_with fail
  refine (number_any _ _ _ _).mono ?_
  rintro e w2 ⟨rfl, hg⟩
  have H2 := Lib.hid (grownBy_trans H1.out hg)
  clear hg
  go_wp2_with fail
  refine (number_any _ _ _ _).mono ?_
  rintro e w3 ⟨rfl, hg⟩
  have H3 := Lib.hid (grownBy_trans H2.out hg)
  clear hg
  go_wp2_with fail
  go_ret
  exact ⟨ret_ba (by rw [linkB, ba_append, ba_append]), H3.out⟩

set_option maxRecDepth 100000 in
set_option maxHeartbeats 1000000 in
theorem packet_impl (t : Int) (l : List UInt8) (big : Bool) (w : World) (h0 : 0 ≤ t) (h1 : t ≤ 1000000000000) (hl : l.length ≤ 400) : Calls Try.prog 27 #[.agg #[.int .i64 t, .string ⟨l.toArray⟩], .bool big] w (StrPost w (bodyB t l big)) := by
  have hn1 := numL_len (t / 4294967296) 4 big
  have hn2 := numL_len (t % 4294967296) 4 big
  have hn3 := numL_len l.length 4 big
  have hn4 := numL_len 0 4 big
  have hpn : padN l.length ≤ 3 := by unfold padN; omega
  have hp : (4 - (l.length : Int) % 4) % 4 = (padN l.length : Int) := by unfold padN; omega
  go_enter Try.func27, Try.ntmps27
  go_wp2_with fail
  have z0 : (w.alloc (.cells #[.int .i64 t, .string ⟨l.toArray⟩] 55)).drew.cell? ⟨w.heap.size, 0, none⟩ = some (.int .i64 t) := by go_simp
  have z1 : (w.alloc (.cells #[.int .i64 t, .string ⟨l.toArray⟩] 55)).drew.cell? ⟨w.heap.size, 1, none⟩ = some (.string ⟨l.toArray⟩) := by go_simp
  have z2 : w.grownBy (w.alloc (.cells #[.int .i64 t, .string ⟨l.toArray⟩] 55)).drew none := grownBy_trans (World.grownBy_alloc _ _ _) grownBy_drew
  have hq1 : IntKind.i64.wrap (t.tdiv 4294967296) = t / 4294967296 := by rw [Int.tdiv_eq_ediv_of_nonneg h0]; exact IntWalk.i64_in _ (by omega)
  have hq2 : t.tmod 4294967296 = t % 4294967296 := Int.tmod_eq_emod_of_nonneg h0
  have hq3 : IntKind.i64.wrap (t % 4294967296) = t % 4294967296 := IntWalk.i64_in _ (by omega)
  have hk1 : ¬ 9223372036854775807 < (numL (t / 4294967296) 4 big).length + (numL (t % 4294967296) 4 big).length := by omega
  go_region_held3 (fun w' => w'.cell? ⟨w.heap.size, 0, none⟩ = some (.int .i64 t) ∧ w'.cell? ⟨w.heap.size, 1, none⟩ = some (.string ⟨l.toArray⟩) ∧ w.grownBy w' none) ((refine ⟨by first | assumption | (simp [*]; done) | (go_simp; done), by first | assumption | (simp [*]; done) | (go_simp; done), by assumption⟩))
    (first | (go_at_call 45; refine (number_any _ _ _ _).mono ?_; rintro e w2 ⟨rfl, hg⟩; have q0 := hg.cell (a := ⟨w.heap.size, 0, none⟩) (v := .int .i64 t) (by first | assumption | (go_simp; done)) (by simp); have q1 := hg.cell (a := ⟨w.heap.size, 1, none⟩) (v := .string ⟨l.toArray⟩) (by first | assumption | (go_simp; done)) (by simp); have q2 := grownBy_trans (a := w) (by assumption) hg))
  clear z0 z1 z2 hk1 hq1 hq2 hq3
  go_wp2_with fail
  refine (number_any _ _ _ _).mono ?_
  rintro e w3 ⟨rfl, hg⟩
  have c0 := hg.cell (a := ⟨w.heap.size, 0, none⟩) (v := .int .i64 t) (by assumption) (by simp)
  have c1 := hg.cell (a := ⟨w.heap.size, 1, none⟩) (v := .string ⟨l.toArray⟩) (by assumption) (by simp)
  have H3 := Lib.hid (grownBy_trans (a := w) (by assumption) hg)
  clear hg
  go_wp2_with fail
  refine (repeat_one 0 (padN l.length) _ (by omega)).mono ?_
  rintro e w4 ⟨rfl, hg⟩
  have d0 := hg.cell c0 (by simp)
  have d1 := hg.cell c1 (by simp)
  have z2 := grownBy_trans (grownBy_trans H3.out hg) (grownBy_drew (r := none))
  have z0 : w4.drew.cell? ⟨w.heap.size, 0, none⟩ = some (.int .i64 t) := d0
  have z1 : w4.drew.cell? ⟨w.heap.size, 1, none⟩ = some (.string ⟨l.toArray⟩) := d1
  clear hg c0 c1 hp
  have HB := Lib.hid (show numL 0 4 big ++ (numL (t / 4294967296) 4 big ++ numL (t % 4294967296) 4 big) ++ numL l.length 4 big ++ numL l.length 4 big ++ l ++ List.replicate (padN l.length) 0 = bodyB t l big by rw [bodyB, padL, List.append_assoc _ l])
  generalize numL (t / 4294967296) 4 big = A1 at *
  generalize numL (t % 4294967296) 4 big = A2 at *
  generalize numL l.length 4 big = A3 at *
  have hk1 : ¬ 9223372036854775807 < (numL 0 4 big).length + (A1.length + A2.length) := by omega
  have hk2 : ¬ 9223372036854775807 < (numL 0 4 big).length + (A1.length + A2.length) + A3.length := by omega
  have hk3 : ¬ 9223372036854775807 < (numL 0 4 big).length + (A1.length + A2.length) + A3.length + A3.length := by omega
  have hk4 : ¬ 9223372036854775807 < (numL 0 4 big).length + (A1.length + A2.length) + A3.length + A3.length + l.length := by omega
  have hk5 : ¬ 9223372036854775807 < (numL 0 4 big).length + (A1.length + A2.length) + A3.length + A3.length + l.length + padN l.length := by omega
  go_wp2_with fail
  go_region_held3 (fun w' => w'.cell? ⟨w.heap.size, 0, none⟩ = some (.int .i64 t) ∧ w'.cell? ⟨w.heap.size, 1, none⟩ = some (.string ⟨l.toArray⟩) ∧ w.grownBy w' none) ((refine ⟨by first | assumption | (simp [*]; done) | (go_simp; done), by first | assumption | (simp [*]; done) | (go_simp; done), by assumption⟩))
    (first | (go_at_call 45; refine (number_any _ _ _ _).mono ?_; rintro e w2 ⟨rfl, hg⟩; have q0 := hg.cell (a := ⟨w.heap.size, 0, none⟩) (v := .int .i64 t) (by first | assumption | (go_simp; done)) (by simp); have q1 := hg.cell (a := ⟨w.heap.size, 1, none⟩) (v := .string ⟨l.toArray⟩) (by first | assumption | (go_simp; done)) (by simp); have q2 := grownBy_trans (a := w) (by assumption) hg))
  go_wp2_with fail
  go_ret
  refine ⟨ret_ba ?_, by assumption⟩
  rw [← HB.out]
  simp only [← List.toArray_replicate, ba_append]

abbrev Pk := Int × List UInt8
def pkOk (p : Pk) : Prop := 0 ≤ p.1 ∧ p.1 ≤ 1000000000000 ∧ p.2.length ≤ 400
instance (p : Pk) : Decidable (pkOk p) := by unfold pkOk; infer_instance
/-- The packets of a slice, in cells. -/
def PkAt (w : World) (a : Option Addr) (l : List Pk) : Prop :=
  l = [] ∨ ∃ b off, a = some ⟨b, off, none⟩ ∧ b < w.heap.size ∧ ∀ i (h : i < l.length), w.cell? ⟨b, off + i * 2, none⟩ = some (.int .i64 (l[i]).1) ∧ w.cell? ⟨b, off + i * 2 + 1, none⟩ = some (.string ⟨(l[i]).2.toArray⟩)
theorem PkAt.kept {w w' : World} {a : Option Addr} {l : List Pk} (h : PkAt w a l) (hg : w.grownBy w' none) : PkAt w' a l := by
  rcases h with h | ⟨b, off, ha, hb, hc⟩
  · exact .inl h
  · exact .inr ⟨b, off, ha, Nat.lt_of_lt_of_le hb hg.size, fun i hi => ⟨hg.cell (hc i hi).1 (by simp), hg.cell (hc i hi).2 (by simp)⟩⟩

theorem time_any (t : Int) (w : World) : Calls Try.prog 71 #[.int .i64 t] w fun e w' => e = .returned (.bool (inB t 0 1000000000000)) ∧ w = w' := by
  cases h : inB t 0 1000000000000
  · have h' : ¬ (0 ≤ t ∧ t ≤ 1000000000000) := by simpa [inB] using h
    by_cases h0 : 0 ≤ t
    · have h1 : ¬ t ≤ 1000000000000 := by omega
      clear h h'
      go_enter Try.func71, Try.ntmps71
      go_wp2
      go_ret
      exact ⟨rfl, rfl⟩
    · clear h h'
      go_enter Try.func71, Try.ntmps71
      go_wp2
      go_ret
      exact ⟨rfl, rfl⟩
  · have h' : 0 ≤ t ∧ t ≤ 1000000000000 := by simpa [inB] using h
    obtain ⟨h0, h1⟩ := h'
    clear h
    go_enter Try.func71, Try.ntmps71
    go_wp2
    go_ret
    exact ⟨rfl, rfl⟩

set_option maxRecDepth 100000 in
theorem pkone_any (t : Int) (m : List UInt8) (w : World) : Calls Try.prog 54 #[.agg #[.int .i64 t, .string ⟨m.toArray⟩]] w fun e w' => e = .returned (.bool (inB t 0 1000000000000 && decide (m.length ≤ 400))) ∧ w.grownBy w' none := by
  cases ht : inB t 0 1000000000000
  · go_enter Try.func54, Try.ntmps54
    go_wp2_with (go_at_call 71; refine (time_any _ _).mono ?_; rintro e w' ⟨rfl, rfl⟩)
    go_ret
    exact ⟨rfl, World.grownBy_alloc _ _ _⟩
  · by_cases h4 : m.length ≤ 400
    · have h4' : (m.length : Int) ≤ 400 := by omega
      go_enter Try.func54, Try.ntmps54
      go_wp2_with (go_at_call 71; refine (time_any _ _).mono ?_; rintro e w' ⟨rfl, rfl⟩)
      go_ret
      exact ⟨ret_b (by first | (simp [h4]; done) | (simp [h4]; omega)), World.grownBy_alloc _ _ _⟩
    · have h4' : ¬ (m.length : Int) ≤ 400 := by omega
      go_enter Try.func54, Try.ntmps54
      go_wp2_with (go_at_call 71; refine (time_any _ _).mono ?_; rintro e w' ⟨rfl, rfl⟩)
      go_ret
      exact ⟨ret_b (by first | (simp [h4]; done) | (simp [h4]; omega)), World.grownBy_alloc _ _ _⟩

theorem all_next {α : Type} {P : α → Prop} (l : List α) (j : Nat) (h : j < l.length) (ha : ∀ x ∈ l.take j, P x) (hx : P l[j]) : ∀ x ∈ l.take (j + 1), P x := by
  intro x hm
  rw [List.take_succ_eq_append_getElem h, List.mem_append, List.mem_singleton] at hm
  rcases hm with hm | rfl
  · exact ha x hm
  · exact hx

def PksRel (w : World) (l : List Pk) (i : Value) (wr : World) : Prop :=
  ∃ j : Nat, j ≤ l.length ∧ i = .int .i64 j ∧ w.grownBy wr none ∧ ∀ x ∈ l.take j, pkOk x

set_option maxRecDepth 100000 in
set_option maxHeartbeats 1000000 in
theorem packets_any (a : Option Addr) (c : Nat) (l : List Pk) (w : World) (h : PkAt w a l) : Calls Try.prog 23 #[.slice a l.length c] w fun e w' => e = .returned (.bool (decide (l.length ≤ 60 ∧ ∀ x ∈ l, pkOk x))) ∧ w.grownBy w' none := by
  have H := Lib.hid h
  clear h
  by_cases h60 : 60 < l.length
  · go_enter Try.func23, Try.ntmps23
    go_wp2_with fail
    go_ret
    exact ⟨ret_b (by simp; omega), World.grownBy.refl _ _⟩
  · go_enter Try.func23, Try.ntmps23
    go_wp2_with fail
    go_loopw [10] (fun i wr => PksRel w l i wr) (fun i _ => l.length - (intOf i).toNat)
    case atStart => exact ⟨0, Nat.zero_le _, rfl, World.grownBy.refl _ _, by simp⟩
    case round =>
      obtain ⟨j, hj, rfl, hg, hall⟩ := hrel
      have HS := Lib.hid (And.intro hg hall)
      clear hg hall
      by_cases hlt : j < l.length
      · rcases (H.out.kept HS.out.1) with h0 | ⟨b, off, rfl, hb, hc⟩
        · rw [h0] at hlt
          simp at hlt
        · obtain ⟨c0, c1⟩ := hc j hlt
          have HC := Lib.hid hc
          clear hc
          generalize hx : l[j] = x at *
          have HX := Lib.hid hx
          clear hx
          obtain ⟨t, m⟩ := x
          have hlt' : (j : Int) < (l.length : Int) := by omega
          have HX2 := HX.out
          cases ht : (inB t 0 1000000000000 && decide (m.length ≤ 400))
          · have HN := Lib.hid (show ¬ (l.length ≤ 60 ∧ ∀ x ∈ l, pkOk x) from fun hh => by
              have hm := hh.2 l[j] (List.getElem_mem hlt)
              rw [HX2] at hm
              have : (inB t 0 1000000000000 && decide (m.length ≤ 400)) = true := by simp [inB]; exact ⟨⟨hm.1, hm.2.1⟩, hm.2.2⟩
              rw [ht] at this
              cases this)
            clear HX2
            go_wp2_with fail
            refine (pkone_any _ _ _).mono ?_
            rintro e w8 ⟨rfl, hg⟩
            rw [ht]
            have H8 := Lib.hid (grownBy_trans (grownBy_trans HS.out.1 (World.grownBy_alloc _ _ _)) hg)
            clear hg
            go_wp2_with fail
            go_ret
            exact ⟨ret_b (decide_eq_false HN.out).symm, H8.out⟩
          · have HO := Lib.hid (show pkOk l[j] by
              rw [HX2]
              simp [inB] at ht
              exact ⟨ht.1.1, ht.1.2, ht.2⟩)
            clear HX2
            go_wp2_with fail
            refine (pkone_any _ _ _).mono ?_
            rintro e w8 ⟨rfl, hg⟩
            rw [ht]
            have H8 := Lib.hid (grownBy_trans (grownBy_trans HS.out.1 (World.grownBy_alloc _ _ _)) hg)
            clear hg
            go_wp2_with fail
            go_roundw
            case rel => exact ⟨j + 1, hlt, by go_num, H8.out, all_next l j hlt HS.out.2 HO.out⟩
            case measure => simp [intOf]; omega
      · obtain rfl : j = l.length := by omega
        go_wp2_with fail
        go_ret
        refine ⟨ret_b (decide_eq_true ⟨by omega, fun x hx => HS.out.2 x (by rw [List.take_length]; exact hx)⟩).symm, HS.out.1⟩

end Go.Proofs.Ytbhbbmocioefnaa
