/- The options of a segment: the program's reading of them. -/
import Derived.Test.YthfhffcimjolgaaTcQ
import Derived.WalkMore
import Derived.ScopeJumps
namespace Go.Proofs.Ythfhffcimjolgaa
open Go.RowKit

theorem op_end (f : Nat) (L : List UInt8) (acc : List Rg) (h : L = [] ∨ L.getD 0 0 = 0) : optS (f + 1) L acc = some acc := by unfold optS; rw [if_pos h]
theorem op_fill (f : Nat) (L : List UInt8) (acc : List Rg) (h : ¬ (L = [] ∨ L.getD 0 0 = 0)) (h1 : L.getD 0 0 = 1) : optS (f + 1) L acc = optS f (L.drop 1) acc := by
  rw [optS, if_neg h, if_pos h1]
theorem op_bad (f : Nat) (L : List UInt8) (acc : List Rg) (h : ¬ (L = [] ∨ L.getD 0 0 = 0)) (h1 : ¬ L.getD 0 0 = 1) (hw : ¬ whole L) : optS (f + 1) L acc = none := by
  rw [optS, if_neg h, if_neg h1, if_pos hw]
theorem op_skip (f : Nat) (L : List UInt8) (acc : List Rg) (h : ¬ (L = [] ∨ L.getD 0 0 = 0)) (h1 : ¬ L.getD 0 0 = 1) (hw : whole L) (h5 : ¬ L.getD 0 0 = 5) : optS (f + 1) L acc = optS f (L.drop (L.getD 1 0).toNat) acc := by
  rw [optS, if_neg h, if_neg h1, if_neg (not_not_intro hw), if_neg h5]
theorem op_wrong (f : Nat) (L : List UInt8) (acc : List Rg) (h : ¬ (L = [] ∨ L.getD 0 0 = 0)) (h1 : ¬ L.getD 0 0 = 1) (hw : whole L) (h5 : L.getD 0 0 = 5) (hb : acc ≠ [] ∨ bodyL L = [] ∨ (bodyL L).length % 8 ≠ 0) : optS (f + 1) L acc = none := by
  rw [optS, if_neg h, if_neg h1, if_neg (not_not_intro hw), if_pos h5, if_pos hb]
theorem op_sack (f : Nat) (L : List UInt8) (acc : List Rg) (h : ¬ (L = [] ∨ L.getD 0 0 = 0)) (h1 : ¬ L.getD 0 0 = 1) (hw : whole L) (h5 : L.getD 0 0 = 5) (hb : ¬ (acc ≠ [] ∨ bodyL L = [] ∨ (bodyL L).length % 8 ≠ 0)) : optS (f + 1) L acc = optS f (L.drop (L.getD 1 0).toNat) (rgsOfL (bodyL L) ((bodyL L).length / 8)) := by
  rw [optS, if_neg h, if_neg h1, if_neg (not_not_intro hw), if_pos h5, if_neg hb]
/-- A row that lies anew, behind a number. -/
def RgFr (B : Nat) (W : World) (a : Option Addr) (l : List Rg) : Prop := RgAt W a l ∧ ∀ q, a = some q → B ≤ q.block
theorem RgFr.nil (B : Nat) (W : World) : RgFr B W none [] := ⟨.inl rfl, fun _ h => by cases h⟩
def OpRel (w : World) (R : Option (List Rg)) (s l : Value) (wr : World) : Prop :=
  ∃ (S : ByteArray) (acc : List Rg) (a : Option Addr) (c f : Nat), s = .string S ∧ l = .slice a acc.length c ∧ (acc = [] → a = none ∧ c = 0) ∧ RgFr w.heap.size wr a acc ∧ w.grownBy wr none ∧ S.size < f ∧ S.size ≤ 1000 ∧ optS f S.data.toList acc = R
def OpPost (w : World) (R : Option (List Rg)) (e : Ending) (w' : World) : Prop :=
  ∃ (a : Option Addr) (c : Nat) (l : List Rg) (ok : Bool), e = .returned (.tuple #[.slice a l.length c, .bool ok]) ∧ RgFr w.heap.size w' a l ∧ w.grownBy w' none ∧ ((R = some l ∧ ok = true) ∨ (R = none ∧ l = [] ∧ ok = false))
theorem sz_list (S : ByteArray) : S.data.toList.length = S.size := by simp
theorem ba_eta (S : ByteArray) : S = ⟨S.data.toList.toArray⟩ := by cases S; simp
theorem ba_at (S : ByteArray) (i : Nat) (h : i < S.size) : S.data.toList.getD i 0 = S[i] := by
  rw [List.getD_eq_getElem?_getD, List.getElem?_eq_getElem (by simpa using h)]; rfl
theorem ba_cut (S : ByteArray) (a b : Nat) : (S.extract a b).data.toList = (S.data.toList.drop a).take (b - a) := by
  rw [ba_eta S, str_mid]
theorem ba_rest (S : ByteArray) (a : Nat) : (S.extract a S.size).data.toList = S.data.toList.drop a := by
  rw [ba_cut, List.take_of_length_le (by simp)]
theorem byte_eq (b : UInt8) (n : Nat) (hn : n < 256) : (b = UInt8.ofNat n) ↔ ((b.toNat : Int) = (n : Int)) := by
  constructor
  · intro h; subst h; simp; omega
  · intro h
    apply UInt8.toNat_inj.mp
    simp
    omega
theorem nil_some {w : World} {a : Option Addr} {acc : List Rg} (h : RgAt w a acc) (hn : acc ≠ []) : ∃ b off, a = some ⟨b, off, none⟩ := by
  rcases h with h | ⟨b, off, h, _⟩
  · exact absurd h hn
  · exact ⟨b, off, h⟩

theorem ranges_ba (B : ByteArray) (K : Nat) (w : World) (hB : B.size = 8 * K) (h0 : 0 < K) (hK : K ≤ 1000) : Calls Try.prog 47 #[.string B] w fun e w' => ∃ b c, e = .returned (.slice (some ⟨b, 0, none⟩) K c) ∧ RgAt w' (some ⟨b, 0, none⟩) (rgsOfL B.data.toList K) ∧ w.grownBy w' none ∧ w.heap.size ≤ b := by
  have k := ranges_any B.data.toList K w (by rw [sz_list]; exact hB) hK
  rw [← ba_eta B] at k
  refine k.mono ?_
  rintro e w' ⟨v, rfl, ho, hg⟩
  have ho2 := ho
  rcases ho.2 with ⟨_, hn⟩ | ⟨g, cap, cur, rfl, _⟩
  · omega
  · exact ⟨g, cap, rfl, rgAt_own ho2 (rgsOf_len _ _).symm, hg, (World.ownsRow.lt ho2 g rfl).1⟩

set_option maxRecDepth 100000 in
set_option maxHeartbeats 3000000 in
theorem sacks_some (s : List UInt8) (r : List Rg) (w : World) (hs : s.length ≤ 1000) (hR : optS (s.length + 1) s [] = (some r)) : Calls Try.prog 26 #[.string ⟨s.toArray⟩] w (OpPost w (some r)) := by
  have HR0 := Lib.hid hR
  clear hR
  go_enter Try.func26, Try.ntmps26
  go_wp2_with fail
  refine wp_scope_jumps 0 (fun a' w' => ∃ (x0 x1 x2 x3 x4 x5 x6 x7 x8 x9 x10 x11 x12 x13 x14 x15 x16 x17 x18 x19 x20 x21 x22 x23 x24 x25 x26 x27 x28 x29 x30 x31 x32 x33 x34 x35 x36 x37 x38 x39 x40 x41 x42 x43 x44 x45 x46 x47 x48 : Value), a' = { tmps := #[x0, x1, x2, x3, x4, x5, x6, x7, x8, x9, x10, x11, x12, x13, x14, x15, x16, x17, x18, x19, x20, x21, x22, x23, x24, x25, x26, x27, x28, x29, x30, x31, x32, x33, x34, x35, x36, x37, x38, x39, x40, x41, x42, x43, x44, x45, x46, x47, x48], defers := [] } ∧ ∃ (ac : Option Addr) (cc : Nat), x4 = .slice ac r.length cc ∧ RgFr w.heap.size w' ac r ∧ w.grownBy w' none) (fun _ _ => 0) rfl ?_ ?_
  · go_wp2_with fail
    go_step3
    go_wp2_with fail
    go_loopw [0, 4] (fun t l wr => OpRel w (some r) t l wr) (fun t _ _ => strL t)
    case atStart => exact ⟨⟨s.toArray⟩, [], none, 0, s.length + 1, rfl, rfl, fun _ => ⟨rfl, rfl⟩, RgFr.nil _ _, World.grownBy.refl _ _, Nat.lt_succ_self _, hs, HR0.out⟩
    case round =>
      clear HR0 hs s
      obtain ⟨S, acc, a, c, f, rfl, rfl, hn, hrg, hg, hf, hsz, hR⟩ := hrel
      obtain ⟨f, rfl⟩ : ∃ q, f = q + 1 := ⟨f - 1, by omega⟩
      have HS := Lib.hid (And.intro hrg (And.intro hg (And.intro hn hR)))
      clear hrg hg hn
      by_cases h0 : S.size = 0
      · have h0i : ¬ (0 : Int) < (S.size : Int) := by omega
        have hl : S.data.toList = [] := List.length_eq_zero_iff.mp (by rw [sz_list]; exact h0)
        rw [op_end _ _ _ (.inl hl)] at hR
        obtain rfl := Option.some.inj hR
        clear hR hl
        go_wp2_with fail
        go_step3
        go_wp2_with fail
        exact bodyPost_ret (v := .tuple #[.slice a acc.length c, .bool true]) (by simp [results, Try.results26, go_sem]) rfl ⟨a, c, acc, true, rfl, HS.out.1, HS.out.2.1, .inl ⟨rfl, rfl⟩⟩
      · have hp : 0 < S.size := by omega
        have hpi : (0 : Int) < (S.size : Int) := by omega
        have hb := ba_at S 0 hp
        have hne : ¬ S.data.toList = [] := fun e => by have := sz_list S; rw [e] at this; simp at this; omega
        have hc := S[0].toNat_lt
        by_cases e0 : (S[0].toNat : Int) = 0
        · have hz : S.data.toList.getD 0 0 = 0 := by rw [hb]; exact (byte_eq S[0] 0 (by omega)).mpr e0
          rw [op_end _ _ _ (.inr hz)] at hR
          obtain rfl := Option.some.inj hR
          have eb : ((S[0].toNat : Int) == 0) = true := by simpa using e0
          clear hR hz hb hne
          go_wp2_with fail
          go_step3
          exact ⟨rfl, _, _, _, _, _, _, _, _, _, _, _, _, _, _, _, _, _, _, _, _, _, _, _, _, _, _, _, _, _, _, _, _, _, _, _, _, _, _, _, _, _, _, _, _, _, _, _, _, _, rfl, a, c, rfl, HS.out.1, HS.out.2.1⟩
        · have hn0 : ¬ (S.data.toList = [] ∨ S.data.toList.getD 0 0 = 0) := by
            rintro (h | h)
            · exact hne h
            · exact e0 ((byte_eq S[0] 0 (by omega)).mp (by rw [← hb]; exact h))
          have eb : ((S[0].toNat : Int) == 0) = false := by simpa using e0
          have h1i : (1 : Int) ≤ (S.size : Int) := by omega
          have h1n : 1 ≤ S.size := by omega
          by_cases e1 : (S[0].toNat : Int) = 1
          · have hz : S.data.toList.getD 0 0 = 1 := by rw [hb]; exact (byte_eq S[0] 1 (by omega)).mpr e1
            rw [op_fill _ _ _ hn0 hz, ← ba_rest] at hR
            have HR := Lib.hid hR
            have eb1 : ((S[0].toNat : Int) == 1) = true := by simpa using e1
            clear hR hz hb hne hn0
            go_wp2_with fail
            go_roundw
            case rel => exact ⟨S.extract 1 S.size, acc, a, c, f, rfl, rfl, HS.out.2.2.1, HS.out.1, HS.out.2.1, by simp; omega, by simp; omega, HR.out⟩
            case measure => simp [strL]; omega
          · have hn1 : ¬ S.data.toList.getD 0 0 = 1 := fun h => e1 ((byte_eq S[0] 1 (by omega)).mp (by rw [← hb]; exact h))
            have eb1 : ((S[0].toNat : Int) == 1) = false := by simpa using e1
            have hsl := sz_list S
            by_cases hw : whole S.data.toList
            · have hw1 := hw.1
              have hw2 := hw.2.1
              have hw3 := hw.2.2
              rw [hsl] at hw1 hw3
              rw [ba_at S 1 (by omega)] at hw2 hw3
              have hbs := ba_cut S 2 S[1].toNat
              have hzs : (S.extract 2 S[1].toNat).size = S[1].toNat - 2 := by rw [← sz_list, ba_cut, List.length_take, List.length_drop, hsl]; omega
              rw [← ba_at S 1 (by omega)] at hbs
              have hbl : (S.extract 2 S[1].toNat).data.toList = bodyL S.data.toList := by rw [ba_cut]; unfold bodyL; rw [ba_at S 1 (by omega)]
              have hcc := S[1].toNat_lt
              have HY := Lib.hid (body_yes1 S wr (by omega) (by omega) (by omega) (by omega))
              generalize S.extract 2 S[1].toNat = B at *
              have hsk : S.data.toList.drop (S.data.toList.getD 1 0).toNat = (S.extract S[1].toNat S.size).data.toList := by rw [ba_rest, ba_at S 1 (by omega)]
              have HSK := Lib.hid hsk
              obtain ⟨k, hk⟩ : ∃ k, S[1].toNat = k := ⟨_, rfl⟩
              rw [hk] at hsk hw2 hw3 hzs
              rw [hk] at HSK
              have hwk : IntKind.i64.wrap (2 + (B.size : Int)) = (k : Int) := by rw [IntWalk.i64_in _ (by omega)]; omega
              have hk0 : (0 : Int) ≤ (k : Int) := by omega
              have hk1 : (k : Int) ≤ (S.size : Int) := by omega
              have hk2 : k ≤ S.size := by omega
              have hk3 : 2 ≤ k := by omega
              have HES := Lib.hid (show (S.extract k S.size).size = S.size - k by rw [← sz_list, ba_rest, List.length_drop, sz_list])
              by_cases e5 : (S[0].toNat : Int) = 5
              · have hz : S.data.toList.getD 0 0 = 5 := by rw [hb]; exact (byte_eq S[0] 5 (by omega)).mpr e5
                have eb5 : ((S[0].toNat : Int) == 5) = true := by simpa using e5
                by_cases hbad : acc ≠ [] ∨ bodyL S.data.toList = [] ∨ (bodyL S.data.toList).length % 8 ≠ 0
                · rw [op_wrong _ _ _ hn0 hn1 hw hz hbad] at hR
                  exact absurd hR (by simp)
                · rw [op_sack _ _ _ hn0 hn1 hw hz hbad, HSK.out, ← hbl] at hR
                  obtain ⟨ha1, ha2, ha3⟩ : acc = [] ∧ B.size ≠ 0 ∧ B.size % 8 = 0 := by
                    rw [← hbl, sz_list] at hbad
                    refine ⟨?_, ?_, ?_⟩
                    · exact Classical.byContradiction fun h => hbad (.inl h)
                    · exact fun h => hbad (.inr (.inl (List.length_eq_zero_iff.mp (by rw [sz_list]; exact h))))
                    · exact Classical.byContradiction fun h => hbad (.inr (.inr h))
                  subst ha1
                  obtain ⟨rfl, rfl⟩ := HS.out.2.2.1 rfl
                  rw [sz_list] at hR
                  have HR := Lib.hid hR
                  have hB0 : ((B.size : Int) == 0) = false := by rw [beq_eq_false_iff_ne]; omega
                  have hB1 : IntKind.i64.wrap ((B.size : Int).tmod 8) = 0 := by rw [Int.tmod_eq_emod_of_nonneg (by omega), IntWalk.i64_in _ (by omega)]; omega
                  have HK := Lib.hid (show B.size = 8 * (B.size / 8) by omega)
                  have HK1 := Lib.hid (show 0 < B.size / 8 ∧ B.size / 8 ≤ 1000 by omega)
                  clear hR hbad hz hn0 hn1 hne hb hbl hsk hzs hbs hw hsl HSK
                  go_wp2_with fail
                  refine (HY.out).mono ?_
                  rintro e w' ⟨rfl, rfl⟩
                  go_wp2_with fail
                  refine (ranges_ba B (B.size / 8) _ HK.out HK1.out.1 HK1.out.2).mono ?_
                  rintro e w3 ⟨b2, c2, rfl, hrg, hg, hbb⟩
                  have H3 := Lib.hid (And.intro (show RgFr w.heap.size _ (some ⟨b2, 0, none⟩) _ from ⟨hrg, fun q e => by cases e; exact Nat.le_trans HS.out.2.1.size hbb⟩) (grownBy_trans HS.out.2.1 hg))
                  clear hrg hg hbb
                  have hlen := rgsOf_len B.data.toList (B.size / 8)
                  go_wp2_with fail
                  go_roundw
                  case rel => exact ⟨S.extract k S.size, rgsOfL B.data.toList (B.size / 8), some ⟨b2, 0, none⟩, c2, f, rfl, by rw [hlen], fun e => by rw [e] at hlen; simp at hlen; omega, H3.out.1, H3.out.2, by rw [HES.out]; omega, by rw [HES.out]; omega, HR.out⟩
                  case measure => (have hz := HES.out); simp only [strL]; rw [hz]; omega
              · have hz : ¬ S.data.toList.getD 0 0 = 5 := fun h => e5 ((byte_eq S[0] 5 (by omega)).mp (by rw [← hb]; exact h))
                have eb5 : ((S[0].toNat : Int) == 5) = false := by simpa using e5
                rw [op_skip _ _ _ hn0 hn1 hw hz, HSK.out] at hR
                have HR := Lib.hid hR
                clear hR hz hn0 hn1 hne hb hbl hsk hzs hbs hw hsl HSK
                go_wp2_with fail
                refine (HY.out).mono ?_
                rintro e w' ⟨rfl, rfl⟩
                go_wp2_with fail
                go_roundw
                case rel => exact ⟨S.extract k S.size, acc, a, c, f, rfl, rfl, HS.out.2.2.1, HS.out.1, HS.out.2.1, by rw [HES.out]; omega, by rw [HES.out]; omega, HR.out⟩
                case measure => (have hz := HES.out); simp only [strL]; rw [hz]; omega
            · rw [op_bad _ _ _ hn0 hn1 hw] at hR
              exact absurd hR (by simp)
  · intro a w2 hJ
    obtain ⟨x0, x1, x2, x3, x4, x5, x6, x7, x8, x9, x10, x11, x12, x13, x14, x15, x16, x17, x18, x19, x20, x21, x22, x23, x24, x25, x26, x27, x28, x29, x30, x31, x32, x33, x34, x35, x36, x37, x38, x39, x40, x41, x42, x43, x44, x45, x46, x47, x48, rfl, ac, cc, rfl, hrg, hg⟩ := hJ
    have HS := Lib.hid (And.intro hrg hg)
    clear hrg hg
    go_wp2_with fail
    exact bodyPost_ret (v := .tuple #[.slice ac r.length cc, .bool true]) (by simp [results, Try.results26, go_sem]) rfl ⟨ac, cc, r, true, rfl, HS.out.1, HS.out.2, .inl ⟨rfl, rfl⟩⟩

set_option maxRecDepth 100000 in
set_option maxHeartbeats 3000000 in
theorem sacks_none (s : List UInt8) (w : World) (hs : s.length ≤ 1000) (hR : optS (s.length + 1) s [] = none) : Calls Try.prog 26 #[.string ⟨s.toArray⟩] w (OpPost w none) := by
  have HR0 := Lib.hid hR
  clear hR
  go_enter Try.func26, Try.ntmps26
  go_wp2_with fail
  refine wp_scope_jumps 2 (fun a' w' => ∃ (x0 x1 x2 x3 x4 x5 x6 x7 x8 x9 x10 x11 x12 x13 x14 x15 x16 x17 x18 x19 x20 x21 x22 x23 x24 x25 x26 x27 x28 x29 x30 x31 x32 x33 x34 x35 x36 x37 x38 x39 x40 x41 x42 x43 x44 x45 x46 x47 x48 : Value), a' = { tmps := #[x0, x1, x2, x3, x4, x5, x6, x7, x8, x9, x10, x11, x12, x13, x14, x15, x16, x17, x18, x19, x20, x21, x22, x23, x24, x25, x26, x27, x28, x29, x30, x31, x32, x33, x34, x35, x36, x37, x38, x39, x40, x41, x42, x43, x44, x45, x46, x47, x48], defers := [] } ∧ w.grownBy w' none) (fun _ _ => 0) rfl ?_ ?_
  · go_wp2_with fail
    go_step3
    go_wp2_with fail
    go_loopw [0, 4] (fun t l wr => OpRel w none t l wr) (fun t _ _ => strL t)
    case atStart => exact ⟨⟨s.toArray⟩, [], none, 0, s.length + 1, rfl, rfl, fun _ => ⟨rfl, rfl⟩, RgFr.nil _ _, World.grownBy.refl _ _, Nat.lt_succ_self _, hs, HR0.out⟩
    case round =>
      clear HR0 hs s
      obtain ⟨S, acc, a, c, f, rfl, rfl, hn, hrg, hg, hf, hsz, hR⟩ := hrel
      obtain ⟨f, rfl⟩ : ∃ q, f = q + 1 := ⟨f - 1, by omega⟩
      have HS := Lib.hid (And.intro hrg (And.intro hg (And.intro hn hR)))
      clear hrg hg hn
      by_cases h0 : S.size = 0
      · have h0i : ¬ (0 : Int) < (S.size : Int) := by omega
        have hl : S.data.toList = [] := List.length_eq_zero_iff.mp (by rw [sz_list]; exact h0)
        rw [op_end _ _ _ (.inl hl)] at hR
        exact absurd hR (by simp)
      · have hp : 0 < S.size := by omega
        have hpi : (0 : Int) < (S.size : Int) := by omega
        have hb := ba_at S 0 hp
        have hne : ¬ S.data.toList = [] := fun e => by have := sz_list S; rw [e] at this; simp at this; omega
        have hc := S[0].toNat_lt
        by_cases e0 : (S[0].toNat : Int) = 0
        · have hz : S.data.toList.getD 0 0 = 0 := by rw [hb]; exact (byte_eq S[0] 0 (by omega)).mpr e0
          rw [op_end _ _ _ (.inr hz)] at hR
          exact absurd hR (by simp)
        · have hn0 : ¬ (S.data.toList = [] ∨ S.data.toList.getD 0 0 = 0) := by
            rintro (h | h)
            · exact hne h
            · exact e0 ((byte_eq S[0] 0 (by omega)).mp (by rw [← hb]; exact h))
          have eb : ((S[0].toNat : Int) == 0) = false := by simpa using e0
          have h1i : (1 : Int) ≤ (S.size : Int) := by omega
          have h1n : 1 ≤ S.size := by omega
          by_cases e1 : (S[0].toNat : Int) = 1
          · have hz : S.data.toList.getD 0 0 = 1 := by rw [hb]; exact (byte_eq S[0] 1 (by omega)).mpr e1
            rw [op_fill _ _ _ hn0 hz, ← ba_rest] at hR
            have HR := Lib.hid hR
            have eb1 : ((S[0].toNat : Int) == 1) = true := by simpa using e1
            clear hR hz hb hne hn0
            go_wp2_with fail
            go_roundw
            case rel => exact ⟨S.extract 1 S.size, acc, a, c, f, rfl, rfl, HS.out.2.2.1, HS.out.1, HS.out.2.1, by simp; omega, by simp; omega, HR.out⟩
            case measure => simp [strL]; omega
          · have hn1 : ¬ S.data.toList.getD 0 0 = 1 := fun h => e1 ((byte_eq S[0] 1 (by omega)).mp (by rw [← hb]; exact h))
            have eb1 : ((S[0].toNat : Int) == 1) = false := by simpa using e1
            have hsl := sz_list S
            by_cases hw : whole S.data.toList
            · have hw1 := hw.1
              have hw2 := hw.2.1
              have hw3 := hw.2.2
              rw [hsl] at hw1 hw3
              rw [ba_at S 1 (by omega)] at hw2 hw3
              have hbs := ba_cut S 2 S[1].toNat
              have hzs : (S.extract 2 S[1].toNat).size = S[1].toNat - 2 := by rw [← sz_list, ba_cut, List.length_take, List.length_drop, hsl]; omega
              rw [← ba_at S 1 (by omega)] at hbs
              have hbl : (S.extract 2 S[1].toNat).data.toList = bodyL S.data.toList := by rw [ba_cut]; unfold bodyL; rw [ba_at S 1 (by omega)]
              have hcc := S[1].toNat_lt
              have HY := Lib.hid (body_yes1 S wr (by omega) (by omega) (by omega) (by omega))
              generalize S.extract 2 S[1].toNat = B at *
              have hsk : S.data.toList.drop (S.data.toList.getD 1 0).toNat = (S.extract S[1].toNat S.size).data.toList := by rw [ba_rest, ba_at S 1 (by omega)]
              have HSK := Lib.hid hsk
              obtain ⟨k, hk⟩ : ∃ k, S[1].toNat = k := ⟨_, rfl⟩
              rw [hk] at hsk hw2 hw3 hzs
              rw [hk] at HSK
              have hwk : IntKind.i64.wrap (2 + (B.size : Int)) = (k : Int) := by rw [IntWalk.i64_in _ (by omega)]; omega
              have hk0 : (0 : Int) ≤ (k : Int) := by omega
              have hk1 : (k : Int) ≤ (S.size : Int) := by omega
              have hk2 : k ≤ S.size := by omega
              have hk3 : 2 ≤ k := by omega
              have HES := Lib.hid (show (S.extract k S.size).size = S.size - k by rw [← sz_list, ba_rest, List.length_drop, sz_list])
              by_cases e5 : (S[0].toNat : Int) = 5
              · have hz : S.data.toList.getD 0 0 = 5 := by rw [hb]; exact (byte_eq S[0] 5 (by omega)).mpr e5
                have eb5 : ((S[0].toNat : Int) == 5) = true := by simpa using e5
                by_cases hbad : acc ≠ [] ∨ bodyL S.data.toList = [] ∨ (bodyL S.data.toList).length % 8 ≠ 0
                · rw [op_wrong _ _ _ hn0 hn1 hw hz hbad] at hR
                  clear hR
                  have hR : True := trivial
                  by_cases ha1 : acc = []
                  · subst ha1
                    obtain ⟨rfl, rfl⟩ := HS.out.2.2.1 rfl
                    have hb2 : B.size = 0 ∨ B.size % 8 ≠ 0 := by
                      rcases hbad with h | h | h
                      · exact absurd rfl h
                      · exact .inl (by rw [← sz_list, hbl, h]; rfl)
                      · exact .inr (by rw [← sz_list, hbl]; exact h)
                    by_cases hb0 : B.size = 0
                    · have hB0 : ((B.size : Int) == 0) = true := by rw [beq_iff_eq]; omega
                      clear hz hn0 hn1 hne hb hbl hsk hzs hbs hw hsl HSK hbad hR
                      go_wp2_with fail
                      refine (HY.out).mono ?_
                      rintro e w' ⟨rfl, rfl⟩
                      go_wp2_with fail
                      go_step3
                      exact ⟨rfl, _, _, _, _, _, _, _, _, _, _, _, _, _, _, _, _, _, _, _, _, _, _, _, _, _, _, _, _, _, _, _, _, _, _, _, _, _, _, _, _, _, _, _, _, _, _, _, _, _, rfl, HS.out.2.1⟩
                    · have hB0 : ((B.size : Int) == 0) = false := by rw [beq_eq_false_iff_ne]; omega
                      have hB1 : ¬ IntKind.i64.wrap ((B.size : Int).tmod 8) = 0 := by rw [Int.tmod_eq_emod_of_nonneg (by omega), IntWalk.i64_in _ (by omega)]; omega
                      obtain ⟨q, hq⟩ : ∃ q, IntKind.i64.wrap ((B.size : Int).tmod 8) = q := ⟨_, rfl⟩
                      rw [hq] at hB1
                      have hB2 : (q != 0) = true := by simpa using hB1
                      clear hz hn0 hn1 hne hb hbl hsk hzs hbs hw hsl HSK hbad hR
                      go_wp2_with fail
                      refine (HY.out).mono ?_
                      rintro e w' ⟨rfl, rfl⟩
                      go_wp2_with fail
                      go_step3
                      exact ⟨rfl, _, _, _, _, _, _, _, _, _, _, _, _, _, _, _, _, _, _, _, _, _, _, _, _, _, _, _, _, _, _, _, _, _, _, _, _, _, _, _, _, _, _, _, _, _, _, _, _, _, rfl, HS.out.2.1⟩
                  · obtain ⟨bb, bo, rfl⟩ := nil_some HS.out.1.1 ha1
                    clear hz hn0 hn1 hne hb hbl hsk hzs hbs hw hsl HSK hbad hR
                    go_wp2_with fail
                    refine (HY.out).mono ?_
                    rintro e w' ⟨rfl, rfl⟩
                    go_wp2_with fail
                    go_step3
                    exact ⟨rfl, _, _, _, _, _, _, _, _, _, _, _, _, _, _, _, _, _, _, _, _, _, _, _, _, _, _, _, _, _, _, _, _, _, _, _, _, _, _, _, _, _, _, _, _, _, _, _, _, _, rfl, HS.out.2.1⟩
                · rw [op_sack _ _ _ hn0 hn1 hw hz hbad, HSK.out, ← hbl] at hR
                  obtain ⟨ha1, ha2, ha3⟩ : acc = [] ∧ B.size ≠ 0 ∧ B.size % 8 = 0 := by
                    rw [← hbl, sz_list] at hbad
                    refine ⟨?_, ?_, ?_⟩
                    · exact Classical.byContradiction fun h => hbad (.inl h)
                    · exact fun h => hbad (.inr (.inl (List.length_eq_zero_iff.mp (by rw [sz_list]; exact h))))
                    · exact Classical.byContradiction fun h => hbad (.inr (.inr h))
                  subst ha1
                  obtain ⟨rfl, rfl⟩ := HS.out.2.2.1 rfl
                  rw [sz_list] at hR
                  have HR := Lib.hid hR
                  have hB0 : ((B.size : Int) == 0) = false := by rw [beq_eq_false_iff_ne]; omega
                  have hB1 : IntKind.i64.wrap ((B.size : Int).tmod 8) = 0 := by rw [Int.tmod_eq_emod_of_nonneg (by omega), IntWalk.i64_in _ (by omega)]; omega
                  have HK := Lib.hid (show B.size = 8 * (B.size / 8) by omega)
                  have HK1 := Lib.hid (show 0 < B.size / 8 ∧ B.size / 8 ≤ 1000 by omega)
                  clear hR hbad hz hn0 hn1 hne hb hbl hsk hzs hbs hw hsl HSK
                  go_wp2_with fail
                  refine (HY.out).mono ?_
                  rintro e w' ⟨rfl, rfl⟩
                  go_wp2_with fail
                  refine (ranges_ba B (B.size / 8) _ HK.out HK1.out.1 HK1.out.2).mono ?_
                  rintro e w3 ⟨b2, c2, rfl, hrg, hg, hbb⟩
                  have H3 := Lib.hid (And.intro (show RgFr w.heap.size _ (some ⟨b2, 0, none⟩) _ from ⟨hrg, fun q e => by cases e; exact Nat.le_trans HS.out.2.1.size hbb⟩) (grownBy_trans HS.out.2.1 hg))
                  clear hrg hg hbb
                  have hlen := rgsOf_len B.data.toList (B.size / 8)
                  go_wp2_with fail
                  go_roundw
                  case rel => exact ⟨S.extract k S.size, rgsOfL B.data.toList (B.size / 8), some ⟨b2, 0, none⟩, c2, f, rfl, by rw [hlen], fun e => by rw [e] at hlen; simp at hlen; omega, H3.out.1, H3.out.2, by rw [HES.out]; omega, by rw [HES.out]; omega, HR.out⟩
                  case measure => (have hz := HES.out); simp only [strL]; rw [hz]; omega
              · have hz : ¬ S.data.toList.getD 0 0 = 5 := fun h => e5 ((byte_eq S[0] 5 (by omega)).mp (by rw [← hb]; exact h))
                have eb5 : ((S[0].toNat : Int) == 5) = false := by simpa using e5
                rw [op_skip _ _ _ hn0 hn1 hw hz, HSK.out] at hR
                have HR := Lib.hid hR
                clear hR hz hn0 hn1 hne hb hbl hsk hzs hbs hw hsl HSK
                go_wp2_with fail
                refine (HY.out).mono ?_
                rintro e w' ⟨rfl, rfl⟩
                go_wp2_with fail
                go_roundw
                case rel => exact ⟨S.extract k S.size, acc, a, c, f, rfl, rfl, HS.out.2.2.1, HS.out.1, HS.out.2.1, by rw [HES.out]; omega, by rw [HES.out]; omega, HR.out⟩
                case measure => (have hz := HES.out); simp only [strL]; rw [hz]; omega
            · rw [op_bad _ _ _ hn0 hn1 hw] at hR
              by_cases hs2 : S.size < 2
              · clear hR hn0 hn1 hne hb hw
                go_wp2_with fail
                refine (body_no1 S _ hs2).mono ?_
                rintro e w' ⟨rfl, rfl⟩
                go_wp2_with fail
                go_step3
                exact ⟨rfl, _, _, _, _, _, _, _, _, _, _, _, _, _, _, _, _, _, _, _, _, _, _, _, _, _, _, _, _, _, _, _, _, _, _, _, _, _, _, _, _, _, _, _, _, _, _, _, _, _, rfl, HS.out.2.1⟩
              · have hnw : S[1].toNat < 2 ∨ S.size < S[1].toNat := by
                  unfold whole at hw
                  rw [hsl, ba_at S 1 (by omega)] at hw
                  omega
                clear hR hn0 hn1 hne hb hw
                go_wp2_with fail
                refine (body_no2 S _ (by omega) (by omega) hnw).mono ?_
                rintro e w' ⟨rfl, rfl⟩
                go_wp2_with fail
                go_step3
                exact ⟨rfl, _, _, _, _, _, _, _, _, _, _, _, _, _, _, _, _, _, _, _, _, _, _, _, _, _, _, _, _, _, _, _, _, _, _, _, _, _, _, _, _, _, _, _, _, _, _, _, _, _, rfl, HS.out.2.1⟩
  · intro a w2 hJ
    obtain ⟨x0, x1, x2, x3, x4, x5, x6, x7, x8, x9, x10, x11, x12, x13, x14, x15, x16, x17, x18, x19, x20, x21, x22, x23, x24, x25, x26, x27, x28, x29, x30, x31, x32, x33, x34, x35, x36, x37, x38, x39, x40, x41, x42, x43, x44, x45, x46, x47, x48, rfl, hg⟩ := hJ
    have HS := Lib.hid hg
    clear hg
    go_wp2_with fail
    exact bodyPost_ret (v := .tuple #[.slice none 0 0, .bool false]) (by simp [results, Try.results26, go_sem]) rfl ⟨none, 0, [], false, rfl, RgFr.nil _ _, HS.out, .inr ⟨rfl, rfl, rfl⟩⟩

end Go.Proofs.Ythfhffcimjolgaa
