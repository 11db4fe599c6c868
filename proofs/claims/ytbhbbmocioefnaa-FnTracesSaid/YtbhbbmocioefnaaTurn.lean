/- Contract of the model's turning of a text, and the tools for rows of bytes that a call makes itself. -/
import Derived.Test.YtbhbbmocioefnaaGet
import Derived.Test.YtbhbbmocioefnaaDraw
import Derived.Laws.IdiomStrings
namespace Go.Proofs.Ytbhbbmocioefnaa
open Go.RowKit

theorem info5 : (Try.prog.info? 5).map (fun i => (i.zero, i.size, i.bytes)) = some (some (.int .u8 0), 1, 1) := by kernel_rfl

def bytesV (l : List UInt8) : List Value := l.map fun b => Value.int .u8 (b.toNat : Int)
theorem bytesV_length (l : List UInt8) : (bytesV l).length = l.length := by simp [bytesV]

/-- A row of bytes of the call's own, as a text. -/
theorem conv_row {w : World} {base n : Nat} {v : Value} {l : List UInt8} (hl : l.length = n) (h : w.ownsRow base 5 1 v n (bytesV l)) : (convert 22 9 v).run Try.prog w = .ok (.string ⟨l.toArray⟩) w := by
  rcases h.2 with ⟨rfl, rfl⟩ | ⟨g, cap, cur, rfl, hb, hg, hnc, hcm, hcs, htake⟩
  · have : l = [] := List.eq_nil_of_length_eq_zero hl
    subst this
    rw [run_convert_bytes_string w 22 9 5 none 0 0 Try.underlying22 Try.underlying5 Try.underlying9]
    rfl
  · subst hl
    refine run_convert_bytes_back w 22 9 5 ⟨g, 0, none⟩ cap l Try.underlying22 Try.underlying5 Try.underlying9 fun j hj => ?_
    have := h.cells (g := g) rfl j (.int .u8 (l[j].toNat : Int)) (by simp [bytesV, List.getElem?_eq_getElem hj])
    exact this

theorem grown_own {w a b : World} {v : Value} {n : Nat} {xs : List Value} {e : TypeId} {size : Nat} (h : w.grownBy a none) (k : a.grownBy b v.ownBlock) (ho : a.ownsRow w.heap.size e size v n xs) : w.grownBy b none :=
  ⟨k.os.trans h.os, k.tape.trans h.tape, k.output.trans h.output, Nat.le_trans h.size k.size, fun i hi _ => (k.block i (Nat.lt_of_lt_of_le hi h.size) (fun e => by have := ho.lt i e.symm; omega)).trans (h.block i hi (by simp))⟩

theorem drop_snoc (s : ByteArray) (q : Nat) (h : q < s.size) : bytesV (s.data.toList.drop (q + 1)).reverse ++ [Value.int .u8 (s[q].toNat : Int)] = bytesV (s.data.toList.drop q).reverse := by
  have e : s.data.toList.drop q = s[q] :: s.data.toList.drop (q + 1) := by
    rw [List.drop_eq_getElem_cons (by simpa using h)]; rfl
  rw [e, List.reverse_cons]
  simp [bytesV]

def StrPost (w : World) (l : List UInt8) (e : Ending) (w' : World) : Prop := e = .returned (.string ⟨l.toArray⟩) ∧ w.grownBy w' none

def TurnRel (s : ByteArray) (w : World) (v i : Value) (wr : World) : Prop :=
  ∃ j : Nat, j ≤ s.size ∧ ((j = 0 ∧ i = .int .i64 (-1)) ∨ ∃ q, j = q + 1 ∧ i = .int .i64 (q : Nat)) ∧
    wr.ownsRow w.heap.size 5 1 v (s.size - j) (bytesV (s.data.toList.drop j).reverse) ∧ w.grownBy wr none

set_option maxRecDepth 100000 in
theorem turn_any (s : ByteArray) (w : World) (hs : s.size ≤ 1000000000000) : Calls Try.prog 66 #[.string s] w (StrPost w s.data.toList.reverse) := by
  obtain ⟨i0, hi, hz0, hz1, hz2⟩ := info_parts info5
  go_enter Try.func66, Try.ntmps66
  go_wp2_with fail
  go_loopw [3, 4] (fun v i wr => TurnRel s w v i wr) (fun _ i _ => (intOf i + 1).toNat)
  case atStart =>
    refine ⟨s.size, Nat.le_refl _, ?_, ?_, World.grownBy_alloc _ _ _⟩
    · by_cases h0 : s.size = 0
      · exact .inl ⟨h0, by rw [h0]; rfl⟩
      · exact .inr ⟨s.size - 1, by omega, by rw [show ((s.size - 1 : Nat) : Int) = (s.size : Int) - 1 from by omega]⟩
    · have e1 : s.data.toList.drop s.size = [] := by simp
      rw [e1, Nat.sub_self]
      exact World.ownsRow_lit w #[] 0 (Nat.le_refl _) (Nat.zero_le _) rfl
  case round =>
    obtain ⟨j, hj, h, hown, hg⟩ := hrel
    rcases h with ⟨rfl, rfl⟩ | ⟨q, rfl, rfl⟩
    · have hc := conv_row (by simp) hown
      go_wp2_with fail
      go_ret
      exact ⟨rfl, hg⟩
    · have HS := Lib.hid (And.intro hown hg)
      clear hown hg
      go_wp2_with (at_builtin; refine wpList_append_own _ rfl _ _ 22 rfl w.heap.size 5 i0 (.int .u8 0) 1 1 Try.underlying22 hi hz0 hz1 hz2 rfl (by decide) _ _ _ rfl (HS.out.1.alloc _) ⟨wr.heap.size, 0, none⟩ 1 1 [.int .u8 (s[q].toNat : Int)] rfl rfl ?c1 ?c2 ?c3 ?c4 ?c5 ?_)
      case c1 => exact cell_one_new _ _ _
      case c2 => simp [Value.oneCell']
      case c3 => unfold maxLen; omega
      case c4 => omega
      case c5 => exact Nat.le_trans HS.out.2.size (World.grownBy_alloc _ _ none).size
      intro v' w1 hown1 hg1 _
      have H1 := Lib.hid (And.intro hown1 (grown_own (grownBy_trans HS.out.2 (World.grownBy_alloc _ _ _)) hg1 (HS.out.1.alloc _)))
      clear hown1 hg1
      go_wp2_with fail
      go_roundw
      case rel =>
        refine ⟨q, by omega, ?_, ?_, H1.out.2⟩
        · by_cases h0 : q = 0
          · exact .inl ⟨h0, by rw [h0]; rfl⟩
          · exact .inr ⟨q - 1, by omega, by rw [show ((q - 1 : Nat) : Int) = (q : Int) - 1 from by omega]⟩
        · have e := H1.out.1
          rw [show s.size - (q + 1) + 1 = s.size - q from by omega, drop_snoc s q (by omega)] at e
          exact e
      case measure => simp [intOf]

end Go.Proofs.Ytbhbbmocioefnaa
