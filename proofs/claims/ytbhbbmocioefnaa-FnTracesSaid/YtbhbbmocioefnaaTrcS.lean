/- The model's writing of a whole trace. -/
import Derived.Test.YtbhbbmocioefnaaTrcI
namespace Go.Proofs.Ytbhbbmocioefnaa
open Go.RowKit

theorem put_four {n : Int} (h0 : 0 ≤ n) (h1 : n < 4294967296) : putOk n 4 := ⟨by omega, by omega, h0, by simpa using h1⟩
theorem put_two {n : Int} (h0 : 0 ≤ n) (h1 : n < 65536) : putOk n 2 := ⟨by omega, by omega, h0, by simpa using h1⟩

set_option maxRecDepth 100000 in
set_option maxHeartbeats 1000000 in
theorem head_spec (big : Bool) (w : World) : Calls Try.prog 38 #[.bool big] w (StrPost w (headL big)) := by
  have hn1 := numL_len 439041101 4 big
  have hn2 := numL_len 1 2 big
  have hn3 := numL_len 0 2 big
  have hn4 := numL_len 400 4 big
  have hk1 : ¬ 9223372036854775807 < (numL 439041101 4 big).length + (numL 1 2 big).length := by omega
  have hk2 : ¬ 9223372036854775807 < (numL 439041101 4 big).length + (numL 1 2 big).length + (numL 0 2 big).length := by omega
  have hk3 : ¬ 9223372036854775807 < (numL 439041101 4 big).length + (numL 1 2 big).length + (numL 0 2 big).length + 8 := by omega
  have hk4 : ¬ 9223372036854775807 < (numL 1 2 big).length + (numL 0 2 big).length := by omega
  have hk5 : ¬ 9223372036854775807 < (numL 1 2 big).length + (numL 0 2 big).length + (numL 400 4 big).length := by omega
  have HH := Lib.hid (show (({ data := (numL 439041101 4 big).toArray } : ByteArray) ++ { data := (numL 1 2 big).toArray } ++ { data := (numL 0 2 big).toArray } ++ { data := #[255, 255, 255, 255, 255, 255, 255, 255] }) = ⟨(headB big).toArray⟩ by rw [headB, ba_append, ba_append]; rfl)
  have HL := Lib.hid (show (({ data := (numL 1 2 big).toArray } : ByteArray) ++ { data := (numL 0 2 big).toArray } ++ { data := (numL 400 4 big).toArray }) = ⟨(linkB big).toArray⟩ by rw [linkB, ba_append, ba_append])
  go_enter Try.func38, Try.ntmps38
  go_wp2_with fail
  refine (number_spec _ _ _ _ (put_four (by omega) (by omega))).mono ?_
  rintro e w1 ⟨rfl, hg⟩
  have H1 := Lib.hid (hg)
  clear hg
  go_wp2_with fail
  refine (number_spec _ _ _ _ (put_two (by omega) (by omega))).mono ?_
  rintro e w2 ⟨rfl, hg⟩
  have H2 := Lib.hid (grownBy_trans H1.out hg)
  clear hg
  go_wp2_with fail
  refine (number_spec _ _ _ _ (put_two (by omega) (by omega))).mono ?_
  rintro e w3 ⟨rfl, hg⟩
  have H3 := Lib.hid (grownBy_trans H2.out hg)
  clear hg
  go_wp2_with fail
  refine (number_spec _ _ _ _ (put_two (by omega) (by omega))).mono ?_
  rintro e w4 ⟨rfl, hg⟩
  have H4 := Lib.hid (grownBy_trans H3.out hg)
  clear hg
  go_wp2_with fail
  refine (number_spec _ _ _ _ (put_two (by omega) (by omega))).mono ?_
  rintro e w5 ⟨rfl, hg⟩
  have H5 := Lib.hid (grownBy_trans H4.out hg)
  clear hg
  go_wp2_with fail
  refine (number_spec _ _ _ _ (put_four (by omega) (by omega))).mono ?_
  rintro e w6 ⟨rfl, hg⟩
  have H6 := Lib.hid (grownBy_trans H5.out hg)
  clear hg
  go_wp2_with fail
  rw [HH.out]
  refine (block_spec1 168627466 (headB big) big _ (head_ok big)).mono ?_
  rintro e w7 ⟨rfl, hg⟩
  have H7 := Lib.hid (grownBy_trans H6.out hg)
  clear hg
  go_wp2_with fail
  rw [HL.out]
  refine (block_spec1 1 (linkB big) big _ (link_ok big)).mono ?_
  rintro e w8 ⟨rfl, hg⟩
  have H8 := Lib.hid (grownBy_trans H7.out hg)
  have hk9 : ¬ 9223372036854775807 < (blockT 168627466 (headB big) big).length + (blockT 1 (linkB big) big).length := by
    rw [blockT_len _ _ _ (head_ok big), blockT_len _ _ _ (link_ok big), headB_len, linkB_len]; omega
  clear hg
  go_wp2_with fail
  go_ret
  exact ⟨ret_ba (by rw [headL, ba_append]), H8.out⟩

set_option maxRecDepth 100000 in
theorem in_int (t a b : Int) (w : World) : Calls Try.prog 67 #[.int .i64 t, .int .i64 a, .int .i64 b] w fun e w' => e = .returned (.bool (inB t a b)) ∧ w = w' := in_any t a b w

set_option maxRecDepth 100000 in
theorem packet_ok (t : Int) (m : List UInt8) (w : World) (hm : m.length ≤ 1000000000000) : Calls Try.prog 39 #[.agg #[.int .i64 t, .string ⟨m.toArray⟩]] w fun e w' => e = .returned (.bool (decide (pkOk (t, m)))) ∧ w.grownBy w' none := by
  cases ht : inB t 0 1000000000000
  · have HN := Lib.hid (show ¬ pkOk (t, m) from fun h => by
      have : inB t 0 1000000000000 = true := by simp [inB]; exact ⟨h.1, h.2.1⟩
      rw [ht] at this
      cases this)
    go_enter Try.func39, Try.ntmps39
    go_wp2_with (go_at_call 67; refine (in_int _ _ _ _).mono ?_; rintro e w' ⟨rfl, rfl⟩)
    go_ret
    exact ⟨ret_b (decide_eq_false HN.out).symm, World.grownBy_alloc _ _ _⟩
  · have HI := Lib.hid (show 0 ≤ t ∧ t ≤ 1000000000000 by simpa [inB] using ht)
    by_cases h4 : m.length ≤ 400
    · have h4' : (m.length : Int) ≤ 400 := by omega
      go_enter Try.func39, Try.ntmps39
      go_wp2_with (go_at_call 67; refine (in_int _ _ _ _).mono ?_; rintro e w' ⟨rfl, rfl⟩)
      go_ret
      exact ⟨ret_b (by rw [decide_eq_true (show pkOk (t, m) from ⟨HI.out.1, HI.out.2, h4⟩)]), World.grownBy_alloc _ _ _⟩
    · have h4' : ¬ (m.length : Int) ≤ 400 := by omega
      go_enter Try.func39, Try.ntmps39
      go_wp2_with (go_at_call 67; refine (in_int _ _ _ _).mono ?_; rintro e w' ⟨rfl, rfl⟩)
      go_ret
      exact ⟨ret_b (by rw [decide_eq_false (show ¬ pkOk (t, m) from fun h => h4 h.2.2)]; simp; omega), World.grownBy_alloc _ _ _⟩

def TrcsRel (w : World) (l : List Pk) (big : Bool) (s i : Value) (wr : World) : Prop :=
  ∃ j : Nat, j ≤ l.length ∧ i = .int .i64 j ∧ s = .string ⟨(headL big ++ (l.take j).flatMap (pkT big)).toArray⟩ ∧ w.grownBy wr none ∧ ∀ x ∈ l.take j, pkOk x

set_option maxRecDepth 100000 in
set_option maxHeartbeats 1000000 in
theorem trace_spec (a : Option Addr) (c : Nat) (l : List Pk) (big : Bool) (w : World) (h : PkAt w a l) (hm : ∀ x ∈ l, x.2.length ≤ 1000000000000) : Calls Try.prog 12 #[.slice a l.length c, .bool big] w (StrPost w (traceL l big)) := by
  have H := Lib.hid h
  have HM := Lib.hid hm
  clear h hm
  by_cases h60 : 60 < l.length
  · have HE := Lib.hid (show traceL l big = [] from if_neg (fun hh => by have := hh.1; omega))
    go_enter Try.func12, Try.ntmps12
    go_wp2_with fail
    go_ret
    exact ⟨ret_s (a := []) HE.out.symm, World.grownBy.refl _ _⟩
  · go_enter Try.func12, Try.ntmps12
    go_wp2_with fail
    refine (head_spec big _).mono ?_
    rintro e w1 ⟨rfl, hg⟩
    have H1 := Lib.hid hg
    clear hg
    go_wp2_with fail
    go_loopw [5, 6] (fun s i wr => TrcsRel w l big s i wr) (fun _ i _ => l.length - (intOf i).toNat)
    case atStart => exact ⟨0, Nat.zero_le _, rfl, by simp, H1.out, by simp⟩
    case round =>
      obtain ⟨j, hj, rfl, rfl, hg, hall⟩ := hrel
      have HS := Lib.hid (And.intro hg hall)
      have hsl : (headL big ++ (l.take j).flatMap (pkT big)).length ≤ 40000 := by
        have h2 := pks_len big (l.take j) hall
        have h4 := headL_len big
        have h5 : (l.take j).length ≤ l.length := by simp; omega
        rw [List.length_append]
        omega
      clear hg hall
      by_cases hlt : j < l.length
      · rcases (H.out.kept HS.out.1) with h0 | ⟨b, off, rfl, hb, hc⟩
        · rw [h0] at hlt
          simp at hlt
        · obtain ⟨c0, c1⟩ := hc j hlt
          clear hc
          have hmx := HM.out l[j] (List.getElem_mem hlt)
          have HN := Lib.hid (show headL big ++ (l.take (j + 1)).flatMap (pkT big) = (headL big ++ (l.take j).flatMap (pkT big)) ++ pkT big l[j] by rw [flat_next big l j hlt, List.append_assoc])
          generalize headL big ++ (l.take j).flatMap (pkT big) = S0 at *
          have HX := Lib.hid (And.intro (List.getElem_mem hlt) (all_next (P := pkOk) l j hlt HS.out.2))
          generalize l[j] = x at *
          obtain ⟨t, m⟩ := x
          simp only at hmx
          have hlt' : (j : Int) < (l.length : Int) := by omega
          have HA := Lib.hid (World.grownBy_alloc wr (.cells #[.int .i64 t, .string ⟨m.toArray⟩] 55) none)
          by_cases hx : pkOk (t, m)
          · have hx' := hx
            obtain ⟨p0, p1, p2⟩ := hx'
            simp only at p0 p1 p2
            have HD := Lib.hid (decide_eq_true hx)
            have HO := Lib.hid hx
            clear hx
            go_wp2_with fail
            refine (packet_ok t m _ (by omega)).mono ?_
            rintro e w8 ⟨rfl, hg⟩
            rw [HD.out]
            have d0 := hg.cell (a := ⟨wr.heap.size, 0, none⟩) (v := .int .i64 t) (by go_simp) (by simp)
            have d1 := hg.cell (a := ⟨wr.heap.size, 1, none⟩) (v := .string ⟨m.toArray⟩) (by go_simp) (by simp)
            have z2 := grownBy_trans (grownBy_trans HS.out.1 (grownBy_trans HA.out hg)) (grownBy_drew (r := none))
            have z0 : w8.drew.cell? ⟨wr.heap.size, 0, none⟩ = some (.int .i64 t) := d0
            have z1 : w8.drew.cell? ⟨wr.heap.size, 1, none⟩ = some (.string ⟨m.toArray⟩) := d1
            clear hg c0 c1
            have hn1 := numL_len (t / 4294967296) 4 big
            have hn2 := numL_len (t % 4294967296) 4 big
            have hn3 := numL_len m.length 4 big
            have hn4 := numL_len 0 4 big
            have hn5 := (padL_len m).2
            have hq1 : IntKind.i64.wrap (t.tdiv 4294967296) = t / 4294967296 := by rw [Int.tdiv_eq_ediv_of_nonneg p0]; exact IntWalk.i64_in _ (by omega)
            have hq2 : t.tmod 4294967296 = t % 4294967296 := Int.tmod_eq_emod_of_nonneg p0
            have hq3 : IntKind.i64.wrap (t % 4294967296) = t % 4294967296 := IntWalk.i64_in _ (by omega)
            have hk0 : ¬ 9223372036854775807 < (numL 0 4 big).length + (numL (t / 4294967296) 4 big).length := by omega
            have hk1 : ¬ 9223372036854775807 < (numL 0 4 big).length + (numL (t / 4294967296) 4 big).length + (numL (t % 4294967296) 4 big).length := by omega
            have hk2 : ¬ 9223372036854775807 < (numL 0 4 big).length + (numL (t / 4294967296) 4 big).length + (numL (t % 4294967296) 4 big).length + (numL m.length 4 big).length := by omega
            have hk3 : ¬ 9223372036854775807 < (numL 0 4 big).length + (numL (t / 4294967296) 4 big).length + (numL (t % 4294967296) 4 big).length + (numL m.length 4 big).length + (numL m.length 4 big).length := by omega
            have hk4 : ¬ 9223372036854775807 < (numL 0 4 big).length + (numL (t / 4294967296) 4 big).length + (numL (t % 4294967296) 4 big).length + (numL m.length 4 big).length + (numL m.length 4 big).length + (padL m).length := by omega
            have hnp : 0 ≤ t / 4294967296 ∧ t / 4294967296 < 4294967296 ∧ 0 ≤ t % 4294967296 ∧ t % 4294967296 < 4294967296 := by omega
            have HP := Lib.hid hnp
            clear hnp
            go_wp2_with fail
            go_region_held3 (fun w' => w'.cell? ⟨wr.heap.size, 0, none⟩ = some (.int .i64 t) ∧ w'.cell? ⟨wr.heap.size, 1, none⟩ = some (.string ⟨m.toArray⟩) ∧ w.grownBy w' none) ((refine ⟨by first | assumption | (simp [*]; done) | (go_simp; done), by first | assumption | (simp [*]; done) | (go_simp; done), by assumption⟩))
              (first | (go_at_call 40; refine (number_spec _ _ _ _ (by first | exact put_four HP.out.1 HP.out.2.1 | exact put_four HP.out.2.2.1 HP.out.2.2.2 | exact put_four (by omega) (by omega))).mono ?_; rintro e w9 ⟨rfl, hg⟩; have q0 := hg.cell (a := ⟨wr.heap.size, 0, none⟩) (v := .int .i64 t) (by first | assumption | (go_simp; done)) (by simp); have q1 := hg.cell (a := ⟨wr.heap.size, 1, none⟩) (v := .string ⟨m.toArray⟩) (by first | assumption | (go_simp; done)) (by simp); have q2 := grownBy_trans (a := w) (by assumption) hg) | (go_at_call 41; refine (pad_any m _ (by omega)).mono ?_; rintro e w9 ⟨rfl, rfl⟩))
            go_wp2_with fail
            rw [show (({ data := (numL 0 4 big).toArray } : ByteArray) ++ { data := (numL (t / 4294967296) 4 big).toArray } ++ { data := (numL (t % 4294967296) 4 big).toArray } ++ { data := (numL (m.length : Int) 4 big).toArray } ++ { data := (numL (m.length : Int) 4 big).toArray } ++ { data := (padL m).toArray }) = ⟨(bodyB t m big).toArray⟩ from by simp only [ba_append]; simp [bodyB, List.append_assoc]]
            have H9 := Lib.hid (by assumption : w.grownBy w9 none)
            refine (block_spec1 6 (bodyB t m big) big _ (body_ok t m big HO.out)).mono ?_
            rintro e w10 ⟨rfl, hg⟩
            have H10 := Lib.hid (grownBy_trans H9.out hg)
            rw [show blockT 6 (bodyB t m big) big = pkT big (t, m) from rfl]
            have hpl := pkT_len big (t, m) HO.out
            have HG := Lib.hid (And.intro (ba_append S0 (pkT big (t, m))) (HX.out.2 HO.out))
            have hk9 : ¬ 9223372036854775807 < S0.length + (pkT big (t, m)).length := by omega
            have h60' : l.length ≤ 60 := by omega
            clear hg hk0 hk1 hk2 hk3 hk4 hq1 hq2 hq3 z0 z1 z2 d0 d1 hn1 hn2 hn3 hn4 hn5
            go_wp2_with fail
            go_roundw
            case rel => exact ⟨j + 1, hlt, by go_num, by rw [HN.out, HG.out.1], H10.out, HG.out.2⟩
            case measure => simp [intOf]; omega
          · have HD := Lib.hid (decide_eq_false hx)
            have HE := Lib.hid (show traceL l big = [] from if_neg (fun hh => hx (hh.2 _ HX.out.1)))
            clear hx
            go_wp2_with fail
            refine (packet_ok t m _ (by omega)).mono ?_
            rintro e w8 ⟨rfl, hg⟩
            rw [HD.out]
            have H8 := Lib.hid (grownBy_trans HS.out.1 (grownBy_trans HA.out hg))
            clear hg c0 c1
            go_wp2_with fail
            go_ret
            exact ⟨ret_s (a := []) HE.out.symm, H8.out⟩
      · obtain rfl : j = l.length := by omega
        have HE := Lib.hid (show traceL l big = traceT l big from if_pos ⟨by omega, fun x hx => HS.out.2 x (by rw [List.take_length]; exact hx)⟩)
        go_wp2_with fail
        go_ret
        exact ⟨ret_s (by rw [HE.out, traceT]; simp), HS.out.1⟩

end Go.Proofs.Ytbhbbmocioefnaa
