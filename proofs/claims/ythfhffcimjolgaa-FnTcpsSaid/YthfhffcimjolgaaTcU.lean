/- The options of a segment: the model's reading of them. -/
import Derived.Test.YthfhffcimjolgaaTcT
namespace Go.Proofs.Ythfhffcimjolgaa
open Go.RowKit

theorem get_c (S : ByteArray) (a b : Nat) {x : Int} (hx : getBe ((S.data.toList.drop a).take 4) = x) (hb : b = a + 4) (hs : b ≤ S.size) (w : World) : Calls Try.prog 30 #[.string (S.extract a b)] w fun e w' => e = .returned (.int .i64 x) ∧ w' = w := by
  have hz : (S.extract a b).size = 4 := by rw [← sz_list, ba_cut, List.length_take, List.length_drop, sz_list]; omega
  have k := get_spec1 (S.extract a b) w (by omega)
  have e : getN (S.extract a b).data.toList (S.extract a b).size = x := by
    rw [← hx, hz, ba_cut, show b - a = 4 by omega, getBe_in _ (by rw [List.length_take, List.length_drop, sz_list]; omega)]
    congr 1
    rw [List.length_take, List.length_drop, sz_list]
    omega
  rw [e] at k
  exact k.mono fun _ _ hh => ⟨hh.1, hh.2.symm⟩
theorem ba_ne (S : ByteArray) (h : ¬ S.size = 0) : S.toList.isEmpty = false := by
  obtain ⟨⟨l⟩⟩ := S
  cases l with
  | nil => exact absurd rfl h
  | cons x l =>
    cases hq : ((ByteArray.mk (Array.mk (x :: l))).toList).isEmpty
    · rfl
    · rw [List.isEmpty_iff] at hq
      simp at hq
theorem mod8 (k : Nat) : IntKind.i64.wrap ((k : Int).tmod 8) = ((k % 8 : Nat) : Int) := by
  rw [Int.tmod_eq_emod_of_nonneg (by omega), IntWalk.i64_in _ (by omega)]
  omega
theorem rg_in (L : List UInt8) (k j : Nat) (hj : 8 * j + 8 ≤ k - 2) : rgAtL ((L.drop 2).take (k - 2)) j = (getBe ((L.drop (2 + 8 * j)).take 4), getBe ((L.drop (2 + 8 * j + 4)).take 4)) := by
  unfold rgAtL
  rw [List.drop_take, List.take_take, List.drop_take, List.take_take, List.drop_drop, List.drop_drop]
  rw [show min 4 (k - 2 - 8 * j) = 4 by omega, show min 4 (k - 2 - 8 * j - 4) = 4 by omega]
def OpRelS (w : World) (R : Option (List Rg)) (s l : Value) (wr : World) : Prop :=
  ∃ (S : ByteArray) (acc : List Rg) (f : Nat), s = .string S ∧ wr.ownsRow w.heap.size 61 2 l acc.length (rgsV acc) ∧ w.grownBy wr none ∧ S.size < f ∧ S.size ≤ 1000 ∧ optS f S.data.toList acc = R
def OpInS (w : World) (L : List UInt8) (K : Nat) (l i : Value) (wr : World) : Prop :=
  ∃ j q : Nat, j ≤ K ∧ q = 2 + 8 * j ∧ i = .int .i64 (q : Nat) ∧ wr.ownsRow w.heap.size 61 2 l j (rgsV (rgsOfL L j)) ∧ w.grownBy wr none
theorem own_at {w : World} {base : Nat} {v : Value} {l : List Rg} {n : Nat} (h : w.ownsRow base 61 2 v n (rgsV l)) (hn : n = l.length) : ∃ a c, v = .slice a l.length c ∧ RgFr base w a l := by
  have h2 := h
  rcases h.2 with ⟨rfl, h0⟩ | ⟨g, cap, cur, rfl, _⟩
  · exact ⟨none, 0, by rw [← hn, h0], .inl (List.length_eq_zero_iff.mp (by omega)), fun _ h => by cases h⟩
  · exact ⟨some ⟨g, 0, none⟩, cap, by rw [← hn], rgAt_own h2 hn, fun q e => by cases e; exact (World.ownsRow.lt h2 g rfl).1⟩
theorem row_zero (w : World) : (w.alloc (.cells #[] 61)).ownsRow w.heap.size 61 2 (.slice (some ⟨w.heap.size, 0, none⟩) 0 0) 0 [] :=
  ⟨by simp, .inr ⟨w.heap.size, 0, #[], rfl, Nat.le_refl _, (by show (w.heap.push (Obj.cells #[] 61))[w.heap.size]? = _; simp), Nat.le_refl _, by unfold maxLen; omega, by simp, by simp⟩⟩

set_option maxRecDepth 100000 in
set_option maxHeartbeats 1500000 in
theorem sacks_spec (s : List UInt8) (w : World) (hs : s.length ≤ 1000) : Calls Try.prog 29 #[.string ⟨s.toArray⟩] w (OpPost w (optS (s.length + 1) s [])) := by
  obtain ⟨i0, hi, hz0, hz1, hz2⟩ := t_info infoRg
  obtain ⟨R, hR⟩ : ∃ R, optS (s.length + 1) s [] = R := ⟨_, rfl⟩
  rw [hR]
  have HR0 := Lib.hid hR
  clear hR
  go_enter Try.func29, Try.ntmps29
  have H0 := Lib.hid (And.intro (row_zero w) (World.grownBy_alloc w (.cells #[] 61) none))
  go_wp2_with fail
  go_loopw [0, 4] (fun t l wr => OpRelS w R t l wr) (fun t _ _ => strL t)
  case atStart => exact ⟨⟨s.toArray⟩, [], s.length + 1, rfl, H0.out.1, H0.out.2, Nat.lt_succ_self _, hs, HR0.out⟩
  case round =>
    clear HR0 H0 hs s
    obtain ⟨S, acc, f, rfl, hrg, hg, hf, hsz, hR⟩ := hrel
    obtain ⟨f, rfl⟩ : ∃ q, f = q + 1 := ⟨f - 1, by omega⟩
    have HS := Lib.hid (And.intro hrg hg)
    clear hrg hg
    by_cases h0 : S.size = 0
    · have hl : S.data.toList = [] := List.length_eq_zero_iff.mp (by rw [sz_list]; exact h0)
      rw [op_end _ _ _ (.inl hl)] at hR
      have HR := Lib.hid hR
      clear hR
      have hS : S = ⟨#[]⟩ := by rw [ba_eta S, hl]
      subst hS
      clear hl h0
      obtain ⟨a, c, rfl, hrg⟩ := own_at HS.out.1 rfl
      have HG := Lib.hid hrg
      clear hrg
      go_wp2_with fail
      exact bodyPost_ret (v := .tuple #[.slice a acc.length c, .bool true]) (by simp [results, Try.results29, go_sem]) rfl ⟨a, c, acc, true, rfl, HG.out, HS.out.2, .inl ⟨HR.out.symm, rfl⟩⟩
    · have hp : 0 < S.size := by omega
      have hpi : (0 : Int) < (S.size : Int) := by omega
      have hb := ba_at S 0 hp
      have hne : ¬ S.data.toList = [] := fun e => by have := sz_list S; rw [e] at this; simp at this; omega
      have hS := ba_ne S h0
      have hc := S[0].toNat_lt
      by_cases e0 : (S[0].toNat : Int) = 0
      · have hz : S.data.toList.getD 0 0 = 0 := by rw [hb]; exact (byte_eq S[0] 0 (by omega)).mpr e0
        rw [op_end _ _ _ (.inr hz)] at hR
        have HR := Lib.hid hR
        have eb : ((S[0].toNat : Int) == 0) = true := by simpa using e0
        clear hR hz hb hne
        obtain ⟨a, c, rfl, hrg⟩ := own_at HS.out.1 rfl
        have HG := Lib.hid hrg
        clear hrg
        go_wp2_with fail
        exact bodyPost_ret (v := .tuple #[.slice a acc.length c, .bool true]) (by simp [results, Try.results29, go_sem]) rfl ⟨a, c, acc, true, rfl, HG.out, HS.out.2, .inl ⟨HR.out.symm, rfl⟩⟩
      · have hn0 : ¬ (S.data.toList = [] ∨ S.data.toList.getD 0 0 = 0) := by
          rintro (h | h)
          · exact hne h
          · exact e0 ((byte_eq S[0] 0 (by omega)).mp (by rw [← hb]; exact h))
        have eb : ((S[0].toNat : Int) == 0) = false := by simpa using e0
        have h1i : (1 : Int) ≤ (S.size : Int) := by omega
        have h1n : 1 ≤ S.size := by omega
        by_cases e1 : (S[0].toNat : Int) = 1
        · have hz : S.data.toList.getD 0 0 = 1 := by rw [hb]; exact (byte_eq S[0] 1 (by omega)).mpr e1
          rw [op_fill _ _ _ hn0 hz, ← ba_rest] at hR
          have HR := Lib.hid hR
          have eb1 : ((S[0].toNat : Int) == 1) = true := by simpa using e1
          have HES := Lib.hid (show (S.extract 1 S.size).size = S.size - 1 by rw [← sz_list, ba_rest, List.length_drop, sz_list])
          clear hR hz hb hne hn0
          go_wp2_with fail
          go_roundw
          case rel => exact ⟨S.extract 1 S.size, acc, f, rfl, HS.out.1, HS.out.2, by rw [HES.out]; omega, by rw [HES.out]; omega, HR.out⟩
          case measure => (have hz := HES.out); simp only [strL]; rw [hz]; omega
        · have hn1 : ¬ S.data.toList.getD 0 0 = 1 := fun h => e1 ((byte_eq S[0] 1 (by omega)).mp (by rw [← hb]; exact h))
          have eb1 : ((S[0].toNat : Int) == 1) = false := by simpa using e1
          have hsl := sz_list S
          by_cases hw : whole S.data.toList
          · have hw1 := hw.1
            have hw2 := hw.2.1
            have hw3 := hw.2.2
            rw [hsl] at hw1 hw3
            rw [ba_at S 1 (by omega)] at hw2 hw3
            have hcc := S[1].toNat_lt
            have hwb := wrap_byte S[1]
            have h2i : ¬ (S.size : Int) < 2 := by omega
            have h1j : (1 : Int) < (S.size : Int) := by omega
            have h3i : ¬ (S[1].toNat : Int) < 2 := by omega
            have h4i : ¬ (S.size : Int) < (S[1].toNat : Int) := by omega
            have hk0 : (0 : Int) ≤ (S[1].toNat : Int) := by omega
            have hk1 : (S[1].toNat : Int) ≤ (S.size : Int) := by omega
            have hk2 : S[1].toNat ≤ S.size := by omega
            have hbl := body_len S.data.toList hw
            rw [ba_at S 1 (by omega)] at hbl
            have HSK := Lib.hid (show S.data.toList.drop (S.data.toList.getD 1 0).toNat = (S.extract S[1].toNat S.size).data.toList by rw [ba_rest, ba_at S 1 (by omega)])
            have HES := Lib.hid (show (S.extract S[1].toNat S.size).size = S.size - S[1].toNat by rw [← sz_list, ba_rest, List.length_drop, sz_list])
            by_cases e5 : (S[0].toNat : Int) = 5
            · have hz : S.data.toList.getD 0 0 = 5 := by rw [hb]; exact (byte_eq S[0] 5 (by omega)).mpr e5
              have eb5 : ((S[0].toNat : Int) == 5) = true := by simpa using e5
              obtain ⟨ao, co, rfl, hrg⟩ := own_at HS.out.1 rfl
              clear hrg
              have hbody : bodyL S.data.toList = (S.data.toList.drop 2).take (S[1].toNat - 2) := by unfold bodyL; rw [ba_at S 1 (by omega)]
              obtain ⟨k, hk⟩ : ∃ k, S[1].toNat = k := ⟨_, rfl⟩
              rw [hk] at hw2 hw3 hwb h3i h4i hk0 hk1 hk2 hbl hbody
              have HKK := Lib.hid hk
              rw [hk] at HES HSK
              have hk9 : k < 256 := by rw [← hk]; exact hcc
              clear hk hcc
              have ht : IntKind.i64.wrap ((k : Int).tmod 8) = ((k % 8 : Nat) : Int) := mod8 k
              by_cases h8 : k % 8 = 2
              · have ht2 : (((k % 8 : Nat) : Int) != 2) = false := by rw [bne_eq_false_iff_eq]; omega
                by_cases h10 : k < 10
                · have h10i : (k : Int) < 10 := by omega
                  rw [op_wrong _ _ _ hn0 hn1 hw hz (.inr (.inl (List.length_eq_zero_iff.mp (by rw [hbl]; omega))))] at hR
                  have HR := Lib.hid hR
                  clear hR
                  have hk := HKK.out
                  clear hz hn0 hn1 hne hb hbl hw HSK hbody
                  go_wp2_with fail
                  exact bodyPost_ret (v := .tuple #[.slice none 0 0, .bool false]) (by simp [results, Try.results29, go_sem]) rfl ⟨none, 0, [], false, rfl, RgFr.nil _ _, HS.out.2, .inr ⟨HR.out.symm, rfl, rfl⟩⟩
                · have h10i : ¬ (k : Int) < 10 := by omega
                  by_cases ha : acc = []
                  · subst ha
                    rw [op_sack _ _ _ hn0 hn1 hw hz (by
                      rintro (h | h | h)
                      · exact h rfl
                      · have h9 := hbl
                        rw [h] at h9
                        simp at h9
                        omega
                      · exact h (by rw [hbl]; omega)), HSK.out, hbl] at hR
                    obtain ⟨K, hK⟩ : ∃ K, (k - 2) / 8 = K := ⟨_, rfl⟩
                    rw [hK] at hR
                    have hkK : k = 2 + 8 * K := by omega
                    have HR := Lib.hid hR
                    have HB := Lib.hid hbody
                    have hl5 := sz_list S
                    have HRG := Lib.hid (fun j (hj : j < K) => rg_in S.data.toList k j (by omega))
                    have HKE := Lib.hid hkK
                    clear hR hK hkK
                    have hk := HKK.out
                    clear hz hn0 hn1 hne hb hbl hw HSK hbody
                    go_wp2_with fail
                    clear hk
                    go_loopw [4, 6] (fun l i wr => OpInS w (bodyL S.data.toList) K l i wr) (fun _ i _ => k - (intOf i).toNat)
                    case atStart => exact ⟨0, 2, Nat.zero_le _, rfl, rfl, HS.out.1, HS.out.2⟩
                    case round =>
                      rename World => wi
                      have hkK := HKE.out
                      obtain ⟨j, q, hj, hq, rfl, hown, hg⟩ := hrel
                      have HI := Lib.hid (And.intro hown hg)
                      clear hown hg
                      by_cases hlt : j < K
                      · obtain ⟨q4, hq4⟩ : ∃ q4, q4 = q + 4 := ⟨_, rfl⟩
                        obtain ⟨q8, hq8⟩ : ∃ q8, q8 = q4 + 4 := ⟨_, rfl⟩
                        have hw4 : IntKind.i64.wrap ((q : Int) + 4) = (q4 : Int) := by rw [IntWalk.i64_in _ (by omega)]; omega
                        have hw8 : IntKind.i64.wrap ((q : Int) + 8) = (q8 : Int) := by rw [IntWalk.i64_in _ (by omega)]; omega
                        obtain ⟨x, hx⟩ : ∃ x, getBe ((S.data.toList.drop q).take 4) = x := ⟨_, rfl⟩
                        obtain ⟨y, hy⟩ : ∃ y, getBe ((S.data.toList.drop q4).take 4) = y := ⟨_, rfl⟩
                        have HN := Lib.hid (show rgsOfL (bodyL S.data.toList) (j + 1) = rgsOfL (bodyL S.data.toList) j ++ [(x, y)] by rw [rgsOf_next, HB.out, HRG.out j hlt, ← hq, ← hq4, hx, hy])
                        have HQ := Lib.hid (And.intro hx (And.intro hy (And.intro hq (And.intro hq4 hq8))))
                        have hj32 : j < 1000 := by omega
                        have b0 : (q : Int) < (k : Int) := by omega
                        have b1 : (0 : Int) ≤ (q : Int) := by omega
                        have b2 : (q : Int) ≤ (q4 : Int) := by omega
                        have b3 : (q4 : Int) ≤ (S.size : Int) := by omega
                        have b4 : (0 : Int) ≤ (q4 : Int) := by omega
                        have b5 : (q4 : Int) ≤ (q8 : Int) := by omega
                        have b6 : (q8 : Int) ≤ (S.size : Int) := by omega
                        have b7 : q4 ≤ S.size := by omega
                        have b8 : q8 ≤ S.size := by omega
                        have b9 : q ≤ q4 := by omega
                        have b10 : q4 ≤ q8 := by omega
                        clear hx hy hq hq4 hq8 hkK
                        go_wp2_with fail
                        go_region_held3 (fun _ => True) (trivial)
                          (first
                          | (go_at_call 30; (with_reducible refine (get_c S q q4 HQ.out.1 HQ.out.2.2.2.1 b7 _).mono ?_); rintro e w9 ⟨rfl, rfl⟩)
                          | (go_at_call 30; (with_reducible refine (get_c S q4 q8 HQ.out.2.1 HQ.out.2.2.2.2 b8 _).mono ?_); rintro e w9 ⟨rfl, rfl⟩)
                          | (refine step_app (by rfl) _ _ _ (by rfl) w.heap.size 61 i0 _ 2 16 Try.underlying24 hi hz0 hz1 hz2 rfl (by decide) _ j (rgsV (rgsOfL (bodyL S.data.toList) j)) (by rfl) (World.ownsRow.kept (World.ownsRow.kept HI.out.1 (grownBy_drew (r := none)) (Classical.em _)) (World.grownBy_alloc _ _ none) (Classical.em _)) ⟨wi.heap.size, 0, none⟩ 1 1 [.int .i64 x, .int .i64 y] (by rfl) (by rfl) (pair_at _ _ _ _) (by simp [Value.oneCell']) (by unfold maxLen; omega) (by omega) (by have := HI.out.2.size; simp; omega) ?_; intro v' wz hown1 hg1; have HZ := Lib.hid (And.intro hown1 hg1); clear hown1 hg1))
                        all_goals
                          go_wp2_with fail
                          go_roundw
                          case rel => exact ⟨j + 1, q8, hlt, (by have h9 := HQ.out.2.2; omega), rfl, by rw [HN.out, rgsV_snoc]; exact HZ.out.1, row_on HI.out.1 HI.out.2 HZ.out.2⟩
                          case measure => (have := HQ.out.2.2); simp [intOf]; omega
                      · obtain rfl : j = K := by omega
                        obtain rfl : q = k := by omega
                        have hq9 : 2 ≤ q ∧ q ≤ S.size := by omega
                        clear hq hkK
                        have hk := HKK.out
                        have hlen := rgsOf_len (bodyL S.data.toList) j
                        go_wp2_with fail
                        go_roundw
                        case rel => exact ⟨S.extract q S.size, rgsOfL (bodyL S.data.toList) j, f, rfl, by rw [hlen]; exact HI.out.1, HI.out.2, by rw [HES.out]; omega, by rw [HES.out]; omega, HR.out⟩
                        case measure => (have hz := HES.out); simp only [strL]; rw [hz]; omega
                  · have h0a : (0 : Int) < (acc.length : Int) := by have := List.length_pos_iff.mpr ha; omega
                    rw [op_wrong _ _ _ hn0 hn1 hw hz (.inl ha)] at hR
                    have HR := Lib.hid hR
                    clear hR
                    have hk := HKK.out
                    clear hz hn0 hn1 hne hb hbl hw HSK hbody
                    go_wp2_with fail
                    exact bodyPost_ret (v := .tuple #[.slice none 0 0, .bool false]) (by simp [results, Try.results29, go_sem]) rfl ⟨none, 0, [], false, rfl, RgFr.nil _ _, HS.out.2, .inr ⟨HR.out.symm, rfl, rfl⟩⟩
              · rw [op_wrong _ _ _ hn0 hn1 hw hz (.inr (.inr (by rw [hbl]; omega)))] at hR
                have HR := Lib.hid hR
                clear hR
                have ht2 : (((k % 8 : Nat) : Int) != 2) = true := by rw [bne_iff_ne]; omega
                have hk := HKK.out
                clear hz hn0 hn1 hne hb hbl hw HSK hbody
                go_wp2_with fail
                exact bodyPost_ret (v := .tuple #[.slice none 0 0, .bool false]) (by simp [results, Try.results29, go_sem]) rfl ⟨none, 0, [], false, rfl, RgFr.nil _ _, HS.out.2, .inr ⟨HR.out.symm, rfl, rfl⟩⟩
            · have hz : ¬ S.data.toList.getD 0 0 = 5 := fun h => e5 ((byte_eq S[0] 5 (by omega)).mp (by rw [← hb]; exact h))
              have eb5 : ((S[0].toNat : Int) == 5) = false := by simpa using e5
              rw [op_skip _ _ _ hn0 hn1 hw hz, HSK.out] at hR
              have HR := Lib.hid hR
              clear hR hz hn0 hn1 hne hb hbl hw HSK
              go_wp2_with fail
              go_roundw
              case rel => exact ⟨S.extract S[1].toNat S.size, acc, f, rfl, HS.out.1, HS.out.2, by rw [HES.out]; omega, by rw [HES.out]; omega, HR.out⟩
              case measure => (have hz := HES.out); simp only [strL]; rw [hz]; omega
          · rw [op_bad _ _ _ hn0 hn1 hw] at hR
            have HR := Lib.hid hR
            clear hR
            by_cases hs2 : S.size < 2
            · have h2i : (S.size : Int) < 2 := by omega
              go_wp2_with fail
              exact bodyPost_ret (v := .tuple #[.slice none 0 0, .bool false]) (by simp [results, Try.results29, go_sem]) rfl ⟨none, 0, [], false, rfl, RgFr.nil _ _, HS.out.2, .inr ⟨HR.out.symm, rfl, rfl⟩⟩
            · have h2i : ¬ (S.size : Int) < 2 := by omega
              have h1j : (1 : Int) < (S.size : Int) := by omega
              have hcc := S[1].toNat_lt
              have hwb := wrap_byte S[1]
              by_cases h3 : S[1].toNat < 2
              · have h3i : (S[1].toNat : Int) < 2 := by omega
                go_wp2_with fail
                exact bodyPost_ret (v := .tuple #[.slice none 0 0, .bool false]) (by simp [results, Try.results29, go_sem]) rfl ⟨none, 0, [], false, rfl, RgFr.nil _ _, HS.out.2, .inr ⟨HR.out.symm, rfl, rfl⟩⟩
              · have h3i : ¬ (S[1].toNat : Int) < 2 := by omega
                have h4i : (S.size : Int) < (S[1].toNat : Int) := by
                  unfold whole at hw
                  rw [hsl, ba_at S 1 (by omega)] at hw
                  omega
                go_wp2_with fail
                exact bodyPost_ret (v := .tuple #[.slice none 0 0, .bool false]) (by simp [results, Try.results29, go_sem]) rfl ⟨none, 0, [], false, rfl, RgFr.nil _ _, HS.out.2, .inr ⟨HR.out.symm, rfl, rfl⟩⟩

end Go.Proofs.Ythfhffcimjolgaa
