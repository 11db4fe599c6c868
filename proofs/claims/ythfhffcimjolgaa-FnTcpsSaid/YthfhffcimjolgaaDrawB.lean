/- The drawings of texts, and of a number with a width: each answers some text or numbers, and writes nothing that was there. -/
import Derived.Test.YthfhffcimjolgaaTurn
namespace Go.Proofs.Ythfhffcimjolgaa
open Go.RowKit

theorem ba_append (a b : List UInt8) : ((⟨a.toArray⟩ : ByteArray) ++ ⟨b.toArray⟩) = ⟨(a ++ b).toArray⟩ := by
  apply ByteArray.ext
  simp
theorem ba_of {s : ByteArray} {l : List UInt8} (h : s.data.toList = l) : s = ⟨l.toArray⟩ := by
  subst h
  simp
theorem ret_ba {a b : ByteArray} (h : a = b) : Ending.returned (.string a) = .returned (.string b) := by rw [h]

/-- Some text of so many bytes at the most. -/
def TextPost (w : World) (r : Nat) (most : Nat) (e : Ending) (w' : World) : Prop :=
  ∃ l : List UInt8, l.length ≤ most ∧ e = .returned (.string ⟨l.toArray⟩) ∧ w.grownBy w' (some r) ∧ RdOk w' r

theorem grown_row {w a b : World} {r : Nat} {v : Value} {n : Nat} {xs : List Value} {e : TypeId} {size : Nat} (h : w.grownBy a (some r)) (k : a.grownBy b v.ownBlock) (ho : a.ownsRow w.heap.size e size v n xs) : w.grownBy b (some r) :=
  ⟨k.os.trans h.os, k.tape.trans h.tape, k.output.trans h.output, Nat.le_trans h.size k.size, fun i hi hne => (k.block i (Nat.lt_of_lt_of_le hi h.size) (fun e => by have := ho.lt i e.symm; omega)).trans (h.block i hi hne)⟩

def BytesRel (w : World) (r most : Nat) (v i : Value) (wr : World) : Prop :=
  ∃ (j : Nat) (l : List UInt8), j + l.length ≤ most ∧ i = .int .i64 (j : Nat) ∧ wr.ownsRow w.heap.size 5 1 v l.length (bytesV l) ∧ w.grownBy wr (some r) ∧ RdOk wr r

set_option maxRecDepth 100000 in
theorem bytes_any (r most : Nat) (w : World) (h : RdOk w r) (hm : most ≤ 10000) : Calls Try.prog 40 #[.pointer (some ⟨r, 0, none⟩), .int .i64 most] w (TextPost w r most) := by
  obtain ⟨i0, hi, hz0, hz1, hz2⟩ := info_parts info5
  have hlt := h.lt
  have H := Lib.hid h
  clear h
  go_enter Try.func40, Try.ntmps40
  go_wp2_with fail
  refine (below_any _ _ _ (H.out.alloc _) (by omega)).mono ?_
  rintro e w1 ⟨v, v0, v1, rfl, hg, hr⟩
  obtain ⟨m, rfl⟩ := Int.eq_ofNat_of_zero_le v0
  have hm1 : m ≤ most := by split at v1 <;> omega
  have HG := Lib.hid (And.intro hg hr)
  clear hg hr v0 v1
  go_wp2_with fail
  go_loopw [5, 6] (fun v i wr => BytesRel w r most v i wr) (fun _ i _ => (intOf i).toNat)
  case atStart =>
    refine ⟨m, [], by simpa using hm1, rfl, ?_, grownBy_trans (World.grownBy_alloc _ _ _) HG.out.1, HG.out.2⟩
    exact (World.ownsRow_lit w #[] 0 (Nat.le_refl _) (Nat.zero_le _) rfl).kept HG.out.1 (.inr (by simp [Value.ownBlock]; omega))
  case round =>
    obtain ⟨j, l, hj, rfl, hown, hg, hr⟩ := hrel
    have HS := Lib.hid (And.intro hown (And.intro hg hr))
    have hlr : r < wr.heap.size := hr.lt
    clear hown hg hr
    by_cases h0 : j = 0
    · subst h0
      have hc := conv_row rfl HS.out.1
      go_wp2_with fail
      go_ret
      exact ⟨l, by omega, rfl, HS.out.2.1, HS.out.2.2⟩
    · obtain ⟨q, rfl⟩ : ∃ q, j = q + 1 := ⟨j - 1, by omega⟩
      clear h0
      have hne : u5.ownBlock = none ∨ u5.ownBlock ≠ some r := by
        by_cases hn : u5.ownBlock = none
        · exact .inl hn
        · refine .inr fun e => ?_
          have := HS.out.1.lt r e
          omega
      have HN := Lib.hid hne
      clear hne
      go_wp2_with fail
      refine (below_any _ _ _ HS.out.2.2 (by omega)).mono ?_
      rintro e w2 ⟨v, v0, v1, rfl, hg, hr⟩
      obtain ⟨x, rfl⟩ := Int.eq_ofNat_of_zero_le v0
      have hx : x ≤ 255 := by rw [if_neg (by omega)] at v1; omega
      have HT := Lib.hid (And.intro (HS.out.1.kept hg HN.out) (And.intro (grownBy_trans HS.out.2.1 hg) hr))
      clear hg hr v0 v1
      go_wp2_with (at_builtin; refine wpList_append_own _ rfl _ _ 22 rfl w.heap.size 5 i0 (.int .u8 0) 1 1 Try.underlying22 hi hz0 hz1 hz2 rfl (by decide) _ _ _ rfl (HT.out.1.alloc _) ⟨w2.heap.size, 0, none⟩ 1 1 [.int .u8 (x : Int)] rfl rfl ?c1 ?c2 ?c3 ?c4 ?c5 ?_)
      case c1 => exact cell_one_new _ _ _
      case c2 => simp [Value.oneCell']
      case c3 => unfold maxLen; omega
      case c4 => omega
      case c5 => exact Nat.le_trans HT.out.2.1.size (World.grownBy_alloc _ _ none).size
      intro v' w3 hown1 hg1 _
      have H1 := Lib.hid (And.intro hown1 (And.intro (grown_row (grownBy_trans HT.out.2.1 (World.grownBy_alloc _ _ _)) hg1 (HT.out.1.alloc _)) ((HT.out.2.2.alloc _).kept hg1 (by
        rcases HN.out with h | h
        · rw [h]; simp
        · exact fun e => h e.symm) (fun k e => by have := HT.out.1.lt k e; omega))))
      clear hown1 hg1
      go_wp2_with fail
      go_roundw
      case rel =>
        refine ⟨q, l ++ [UInt8.ofNat x], by simp; omega, by go_num, ?_, H1.out.2.1, H1.out.2.2⟩
        have e := H1.out.1
        have ex : ((UInt8.ofNat x).toNat : Int) = (x : Int) := by simp; omega
        rw [List.length_append, List.length_singleton, bytesV, List.map_append, List.map_singleton, ex]
        exact e
      case measure => simp [intOf]

def DrawTPost (w : World) (most : Nat) (e : Ending) (w' : World) : Prop :=
  ∃ l : List UInt8, l.length ≤ most ∧ e = .returned (.string ⟨l.toArray⟩) ∧ w.grownBy w' none

def DrawNPost (w : World) (e : Ending) (w' : World) : Prop :=
  ∃ u v : Int, (Lit.int .i64 u).wf = true ∧ (Lit.int .i64 v).wf = true ∧ e = .returned (.tuple #[.int .i64 u, .int .i64 v]) ∧ w.grownBy w' none

end Go.Proofs.Ythfhffcimjolgaa
