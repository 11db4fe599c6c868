/- The model's reading of options. -/
import Derived.Test.YtefpnbmjcailgaaOpT
import Derived.IntWalk
namespace Go.Proofs.Ytefpnbmjcailgaa
open Go.RowKit

theorem whole_at (S : ByteArray) (h : whole S.data.toList) : ∃ h1 : 1 < S.size, 2 ≤ S[1].toNat ∧ S[1].toNat ≤ S.size := by
  have a := h.1
  have b := h.2.1
  have c := h.2.2
  rw [sz_list] at a c
  have h1 : 1 < S.size := a
  rw [ba_at S 1 h1] at b c
  exact ⟨h1, b, c⟩
theorem wrap_byte2 (b : UInt8) : IntKind.i64.wrap (b.toNat : Int) = (b.toNat : Int) := IntWalk.i64_in _ (by have := b.toNat_lt; omega)
theorem len_facts (k n : Nat) (a : 2 ≤ k) (b : k ≤ n) : ¬ (n : Int) < 2 ∧ (1 : Int) < (n : Int) ∧ ¬ (k : Int) < 2 ∧ (2 : Int) ≤ (k : Int) ∧ ¬ (n : Int) < (k : Int) ∧ (0 : Int) ≤ (k : Int) ∧ (k : Int) ≤ (n : Int) := by omega
theorem bod_eq (S : ByteArray) (h1 : 1 < S.size) : (⟨(bodyL S.data.toList).toArray⟩ : ByteArray) = S.extract 2 S[1].toNat := by
  rw [ba_eta (S.extract 2 S[1].toNat), ba_cut]
  unfold bodyL
  rw [ba_at S 1 h1]
theorem es_eq (S : ByteArray) (k : Nat) : (S.extract k S.size).size = S.size - k := by rw [← sz_list, ba_rest, List.length_drop, sz_list]
def OrRel (w : World) (R : Option (List Pk)) (s l : Value) (wr : World) : Prop :=
  ∃ (S : ByteArray) (acc : List Pk) (f : Nat), s = .string S ∧ wr.ownsRow w.heap.size 43 2 l acc.length (pksV acc) ∧ w.grownBy wr none ∧ S.size < f ∧ 2 * acc.length + S.size ≤ 40 ∧ optO f S.data.toList acc = R

set_option maxRecDepth 100000 in
set_option maxHeartbeats 2000000 in
theorem ro_spec (s : List UInt8) (w : World) (hs : s.length ≤ 9223372036854775807) : Calls Try.prog 12 #[.string ⟨s.toArray⟩] w (RoPost w (readO s)) := by
  obtain ⟨i0, hi, hz0, hz1, hz2⟩ := info_of infoPk
  have H0 := Lib.hid (And.intro (row_zero w) (World.grownBy_alloc w (.cells #[] 43) none))
  by_cases hb : (40 : Int) < (s.length : Int)
  · have HV := Lib.hid (show readO s = ([], false) from if_pos (by omega))
    go_enter Try.func12, Try.ntmps12
    go_wp2_with fail
    exact bodyPost_ret (v := .tuple #[.slice none 0 0, .bool false]) (by simp [results, Try.results12, go_sem]) rfl ⟨none, 0, by rw [HV.out]; rfl, H0.out.2, by rw [HV.out]; exact World.ownsRow_nil _ _ _ _⟩
  · obtain ⟨R, hR⟩ : ∃ R, optO (s.length + 1) s [] = R := ⟨_, rfl⟩
    have HV := Lib.hid (show readO s = outO R by rw [readO, if_neg (by omega), hR])
    have HR0 := Lib.hid hR
    have hs40 : s.length ≤ 40 := by omega
    generalize readO s = V at *
    clear hR
    go_enter Try.func12, Try.ntmps12
    go_wp2_with fail
    go_loopw [0, 4] (fun t l wr => OrRel w R t l wr) (fun t _ _ => strL t)
    case atStart => exact ⟨⟨s.toArray⟩, [], s.length + 1, rfl, H0.out.1, H0.out.2, Nat.lt_succ_self _, (by show 2 * 0 + s.length ≤ 40; omega), HR0.out⟩
    case round =>
      clear HR0 H0 hs hs40 hb
      obtain ⟨S, acc, f, rfl, hrg, hg, hf, hsz, hR⟩ := hrel
      obtain ⟨f, rfl⟩ : ∃ q, f = q + 1 := ⟨f - 1, by omega⟩
      obtain ⟨a, c, rfl⟩ := own_slice hrg
      have HS := Lib.hid (And.intro hrg hg)
      clear hrg hg
      have HG := Lib.hid HS.out.1
      by_cases h0 : S.size = 0
      · have hl : S.data.toList = [] := List.length_eq_zero_iff.mp (by rw [sz_list]; exact h0)
        rw [oo_end _ _ _ (.inl hl)] at hR
        have HR := Lib.hid hR.symm
        clear hR
        have hS : S = ⟨#[]⟩ := by rw [ba_eta S, hl]
        subst hS
        clear hl h0
        go_wp2_with fail
        exact bodyPost_ret (v := .tuple #[.slice a acc.length c, .bool true]) (by simp [results, Try.results12, go_sem]) rfl ⟨a, c, by rw [HV.out, HR.out]; rfl, HS.out.2, by rw [HV.out, HR.out]; exact HG.out⟩
      · have hp : 0 < S.size := by omega
        have hpi : (0 : Int) < (S.size : Int) := by omega
        have hb := ba_at S 0 hp
        have hne : ¬ S.data.toList = [] := fun e => by have := sz_list S; rw [e] at this; simp at this; omega
        have hS := ba_ne S h0
        have hc : S[0].toNat < 256 := S[0].toNat_lt
        by_cases e0 : (S[0].toNat : Int) = 0
        · have hz : S.data.toList.getD 0 0 = 0 := by rw [hb]; exact (byte_eq S[0] 0 (by omega)).mpr e0
          rw [oo_end _ _ _ (.inr hz)] at hR
          have HR := Lib.hid hR.symm
          have eb : ((S[0].toNat : Int) == 0) = true := by simpa using e0
          clear hR hz hb hne
          go_wp2_with fail
          exact bodyPost_ret (v := .tuple #[.slice a acc.length c, .bool true]) (by simp [results, Try.results12, go_sem]) rfl ⟨a, c, by rw [HV.out, HR.out]; rfl, HS.out.2, by rw [HV.out, HR.out]; exact HG.out⟩
        · have hn0 : ¬ (S.data.toList = [] ∨ S.data.toList.getD 0 0 = 0) := by
            rintro (h | h)
            · exact hne h
            · exact e0 ((byte_eq S[0] 0 (by omega)).mp (by rw [← hb]; exact h))
          have eb : ((S[0].toNat : Int) == 0) = false := by simpa using e0
          have h1i : (1 : Int) ≤ (S.size : Int) := by omega
          have h1n : 1 ≤ S.size := by omega
          by_cases e1 : (S[0].toNat : Int) = 1
          · have hz : S.data.toList.getD 0 0 = 1 := by rw [hb]; exact (byte_eq S[0] 1 (by omega)).mpr e1
            rw [oo_fill _ _ _ hn0 hz, ← ba_rest] at hR
            have HR := Lib.hid hR
            have eb1 : ((S[0].toNat : Int) == 1) = true := by simpa using e1
            have HES := Lib.hid (show (S.extract 1 S.size).size = S.size - 1 by rw [← sz_list, ba_rest, List.length_drop, sz_list])
            clear hR hz hb hne hn0
            go_wp2_with fail
            go_roundw
            case rel => exact ⟨S.extract 1 S.size, acc, f, rfl, HS.out.1, HS.out.2, by rw [HES.out]; omega, by rw [HES.out]; omega, HR.out⟩
            case measure => (have hz := HES.out); simp only [strL]; rw [hz]; omega
          · have hn1 : ¬ S.data.toList.getD 0 0 = 1 := fun h => e1 ((byte_eq S[0] 1 (by omega)).mp (by rw [← hb]; exact h))
            have eb1 : ((S[0].toNat : Int) == 1) = false := by simpa using e1
            have hsl := sz_list S
            by_cases hw : whole S.data.toList
            · obtain ⟨h1nn, hw2, hw3⟩ := whole_at S hw
              have hwa2 := wrap_byte2 S[0]
              obtain ⟨h2i, h1j, h3i, h3j, h4i, hk0, hk1⟩ := len_facts S[1].toNat S.size hw2 hw3
              have HES := Lib.hid (es_eq S S[1].toNat)
              rw [oo_more _ _ _ hn0 hn1 hw, hb, ba_at S 1 h1nn, ← ba_rest] at hR
              have hbody := bod_eq S h1nn
              have HPS := Lib.hid (show pksV (acc ++ [((S[0].toNat : Int), bodyL S.data.toList)]) = pksV acc ++ [.int .i64 (S[0].toNat : Int), .string (S.extract 2 S[1].toNat)] by rw [pksV_snoc, hbody])
              have H3 := Lib.hid (fun (x y : Value) => app_facts w wr x y 43 _ _ _ HS.out.1)
              have HR := Lib.hid hR
              clear hR hb hne hn0 hn1 hw hbody
              have hsw : w.heap.size ≤ wr.heap.size := HS.out.2.size
              go_wp2_with fail
              go_region_held3 (fun _ => True) (trivial)
                ((refine step_app (by rfl) _ _ _ (by rfl) w.heap.size 43 i0 _ 2 24 Try.underlying25 hi hz0 hz1 hz2 rfl (by decide) _ acc.length (pksV acc) (by rfl) (H3.out _ _).2.1 ⟨wr.heap.size, 0, none⟩ 1 1 [_, _] (by rfl) (by rfl) (H3.out _ _).2.2 (by simp [Value.oneCell']) (by unfold maxLen; omega) (by omega) (by simp; omega) ?_; intro v' wz hown1 hg1; have HZ := Lib.hid (And.intro hown1 hg1); clear hown1 hg1))
              all_goals
                go_wp2_with fail
                go_roundw
                case rel => exact ⟨S.extract S[1].toNat S.size, acc ++ [((S[0].toNat : Int), bodyL S.data.toList)], f, rfl, by rw [HPS.out, List.length_append]; exact HZ.out.1, row_on HS.out.1 HS.out.2 HZ.out.2 (H3.out _ _).1, by rw [HES.out]; omega, by rw [HES.out, List.length_append, List.length_singleton]; omega, HR.out⟩
                case measure => (have hz := HES.out); simp only [strL]; rw [hz]; omega
            · rw [oo_bad _ _ _ hn0 hn1 hw] at hR
              have HR := Lib.hid hR.symm
              clear hR
              by_cases hs2 : S.size < 2
              · have h2i : (S.size : Int) < 2 := by omega
                go_wp2_with fail
                exact bodyPost_ret (v := .tuple #[.slice none 0 0, .bool false]) (by simp [results, Try.results12, go_sem]) rfl ⟨none, 0, by rw [HV.out, HR.out]; rfl, HS.out.2, by rw [HV.out, HR.out]; exact World.ownsRow_nil _ _ _ _⟩
              · have h2i : ¬ (S.size : Int) < 2 := by omega
                have h1nn : 1 < S.size := by omega
                have h1j : (1 : Int) < (S.size : Int) := by omega
                have hcc : S[1].toNat < 256 := S[1].toNat_lt
                by_cases h3 : S[1].toNat < 2
                · have h3i : (S[1].toNat : Int) < 2 := by omega
                  go_wp2_with fail
                  exact bodyPost_ret (v := .tuple #[.slice none 0 0, .bool false]) (by simp [results, Try.results12, go_sem]) rfl ⟨none, 0, by rw [HV.out, HR.out]; rfl, HS.out.2, by rw [HV.out, HR.out]; exact World.ownsRow_nil _ _ _ _⟩
                · have h3i : ¬ (S[1].toNat : Int) < 2 := by omega
                  have h4i : (S.size : Int) < (S[1].toNat : Int) := by
                    unfold whole at hw
                    rw [hsl, ba_at S 1 h1nn] at hw
                    omega
                  go_wp2_with fail
                  exact bodyPost_ret (v := .tuple #[.slice none 0 0, .bool false]) (by simp [results, Try.results12, go_sem]) rfl ⟨none, 0, by rw [HV.out, HR.out]; rfl, HS.out.2, by rw [HV.out, HR.out]; exact World.ownsRow_nil _ _ _ _⟩

end Go.Proofs.Ytefpnbmjcailgaa
