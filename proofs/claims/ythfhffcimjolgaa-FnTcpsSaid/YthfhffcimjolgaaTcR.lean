/- What the options of a segment tell: the program's reading. -/
import Derived.Test.YthfhffcimjolgaaTcZ
import Derived.Deep.RegionHeld3
namespace Go.Proofs.Ythfhffcimjolgaa
open Go.RowKit

/-- The range at the j-th place of a text of ranges. -/
def rgAtL (s : List UInt8) (j : Nat) : Rg := (getBe ((s.drop (8 * j)).take 4), getBe (((s.drop (8 * j)).drop 4).take 4))
def rgsOfL (s : List UInt8) (k : Nat) : List Rg := (List.range k).map (rgAtL s)
theorem rgsOf_next (s : List UInt8) (j : Nat) : rgsOfL s (j + 1) = rgsOfL s j ++ [rgAtL s j] := by simp [rgsOfL, List.range_succ]
theorem rgsOf_len (s : List UInt8) (j : Nat) : (rgsOfL s j).length = j := by simp [rgsOfL]
/-- Whether an option is whole. -/
def whole (s : List UInt8) : Prop := 2 ≤ s.length ∧ 2 ≤ (s.getD 1 0).toNat ∧ (s.getD 1 0).toNat ≤ s.length
instance (s : List UInt8) : Decidable (whole s) := by unfold whole; infer_instance
def bodyL (s : List UInt8) : List UInt8 := (s.drop 2).take ((s.getD 1 0).toNat - 2)
/-- The ranges that options tell. -/
def optS : Nat → List UInt8 → List Rg → Option (List Rg)
  | 0, _, _ => none
  | f + 1, s, acc =>
    if s = [] ∨ s.getD 0 0 = 0 then some acc
    else if s.getD 0 0 = 1 then optS f (s.drop 1) acc
    else if ¬ whole s then none
    else if s.getD 0 0 = 5 then
      if acc ≠ [] ∨ bodyL s = [] ∨ (bodyL s).length % 8 ≠ 0 then none else optS f (s.drop (s.getD 1 0).toNat) (rgsOfL (bodyL s) ((bodyL s).length / 8))
    else optS f (s.drop (s.getD 1 0).toNat) acc

theorem byte_at (s : List UInt8) (i : Nat) (h : i < s.length) : s.getD i 0 = s[i] := by
  rw [List.getD_eq_getElem?_getD, List.getElem?_eq_getElem h]; rfl
theorem body_len (s : List UInt8) (h : whole s) : (bodyL s).length = (s.getD 1 0).toNat - 2 := by
  have h3 := h.2.2
  unfold bodyL
  rw [List.length_take, List.length_drop]
  omega
theorem str_mid (r : List UInt8) (a b : Nat) : ({ data := r.toArray } : ByteArray).extract a b = ⟨((r.drop a).take (b - a)).toArray⟩ := by
  by_cases h : a ≤ b
  · exact extract_mid r a b h
  · rw [show b - a = 0 by omega]
    apply ByteArray.ext
    simp [ByteArray.data_extract]
    omega

theorem wrap_byte (b : UInt8) : wrap64 (b.toNat : Int) = (b.toNat : Int) := by
  have h := b.toNat_lt
  unfold wrap64
  omega

set_option maxRecDepth 100000 in
set_option maxHeartbeats 1000000 in
theorem body_no1 (S : ByteArray) (w : World) (h2 : S.size < 2) : Calls Try.prog 46 #[.string S] w fun e w' => e = .returned (.tuple #[.string ⟨#[]⟩, .bool false]) ∧ w' = w := by
  have h2i : (S.size : Int) < 2 := by omega
  go_enter Try.func46, Try.ntmps46
  go_wp2_with fail
  exact bodyPost_ret (v := .tuple #[.string ⟨#[]⟩, .bool false]) (by simp [results, Try.results46, go_sem]) rfl ⟨rfl, rfl⟩

set_option maxRecDepth 100000 in
set_option maxHeartbeats 1000000 in
theorem body_no2 (S : ByteArray) (w : World) (hs : S.size ≤ 100000) (h1 : 1 < S.size) (h : S[1].toNat < 2 ∨ S.size < S[1].toNat) : Calls Try.prog 46 #[.string S] w fun e w' => e = .returned (.tuple #[.string ⟨#[]⟩, .bool false]) ∧ w' = w := by
  have h2i : ¬ (S.size : Int) < 2 := by omega
  have h1i : (1 : Int) < (S.size : Int) := by omega
  have hc := S[1].toNat_lt
  have hw := wrap_byte S[1]
  by_cases h3 : S[1].toNat < 2
  · have h3i : (S[1].toNat : Int) < 2 := by omega
    clear h
    go_enter Try.func46, Try.ntmps46
    go_wp2_with fail
    exact bodyPost_ret (v := .tuple #[.string ⟨#[]⟩, .bool false]) (by simp [results, Try.results46, go_sem]) rfl ⟨rfl, rfl⟩
  · have h3i : ¬ (S[1].toNat : Int) < 2 := by omega
    have h4 : S.size < S[1].toNat := by omega
    have h4i : (S.size : Int) < (S[1].toNat : Int) := by omega
    clear h
    go_enter Try.func46, Try.ntmps46
    go_wp2_with fail
    exact bodyPost_ret (v := .tuple #[.string ⟨#[]⟩, .bool false]) (by simp [results, Try.results46, go_sem]) rfl ⟨rfl, rfl⟩

set_option maxRecDepth 100000 in
set_option maxHeartbeats 1000000 in
theorem body_yes1 (S : ByteArray) (w : World) (hs : S.size ≤ 100000) (h1 : 1 < S.size) (h3 : ¬ S[1].toNat < 2) (h4 : ¬ S.size < S[1].toNat) : Calls Try.prog 46 #[.string S] w fun e w' => e = .returned (.tuple #[.string (S.extract 2 S[1].toNat), .bool true]) ∧ w' = w := by
  have h2i : ¬ (S.size : Int) < 2 := by omega
  have h1i : (1 : Int) < (S.size : Int) := by omega
  have hc := S[1].toNat_lt
  have hw := wrap_byte S[1]
  have h3i : ¬ (S[1].toNat : Int) < 2 := by omega
  have h3j : (2 : Int) ≤ (S[1].toNat : Int) := by omega
  have h3k : 2 ≤ S[1].toNat := by omega
  have h4i : ¬ (S.size : Int) < (S[1].toNat : Int) := by omega
  have h4j : (S[1].toNat : Int) ≤ (S.size : Int) := by omega
  have h4k : S[1].toNat ≤ S.size := by omega
  go_enter Try.func46, Try.ntmps46
  go_wp2_with fail
  exact bodyPost_ret (v := .tuple #[.string (S.extract 2 S[1].toNat), .bool true]) (by simp [results, Try.results46, go_sem]) rfl ⟨rfl, rfl⟩
theorem body_no (s : List UInt8) (w : World) (hs : s.length ≤ 100000) (h : ¬ whole s) : Calls Try.prog 46 #[.string ⟨s.toArray⟩] w fun e w' => e = .returned (.tuple #[.string ⟨#[]⟩, .bool false]) ∧ w' = w := by
  by_cases h2 : s.length < 2
  · exact body_no1 ⟨s.toArray⟩ w h2
  · have h1 : 1 < s.length := by omega
    refine body_no2 ⟨s.toArray⟩ w hs h1 ?_
    have hb := byte_at s 1 h1
    unfold whole at h
    rw [hb] at h
    show s[1].toNat < 2 ∨ s.length < s[1].toNat
    omega
theorem body_yes (s : List UInt8) (w : World) (hs : s.length ≤ 100000) (h : whole s) : Calls Try.prog 46 #[.string ⟨s.toArray⟩] w fun e w' => e = .returned (.tuple #[.string ⟨(bodyL s).toArray⟩, .bool true]) ∧ w' = w := by
  have h1 : 1 < s.length := h.1
  have hb := byte_at s 1 h1
  have h3 := h.2.1
  have h4 := h.2.2
  rw [hb] at h3 h4
  have k := body_yes1 ⟨s.toArray⟩ w hs h1 (show ¬ s[1].toNat < 2 by omega) (show ¬ s.length < s[1].toNat by omega)
  have e : (({ data := s.toArray } : ByteArray).extract 2 s[1].toNat) = ⟨(bodyL s).toArray⟩ := by unfold bodyL; rw [hb, str_mid]
  rw [← e]
  exact k

end Go.Proofs.Ythfhffcimjolgaa
