/- The library's builder of texts, and a text that is repeated: the contracts that the program's writing of a trace stands on. -/
import Derived.Test.YtbhbbmocioefnaaShelf
import Derived.Test.YtbhbbmocioefnaaBlkP
namespace Go.Proofs.Ytbhbbmocioefnaa
open Go.RowKit

theorem below_grows {w w' : World} (h : Below w.heap.size w w') : w.grownBy w' none := ⟨h.os, h.tape, h.output, h.size, fun k hk _ => h.block k hk⟩
theorem grows_below {B : Nat} {w w' : World} (h : w.grownBy w' none) (hB : B ≤ w.heap.size) : Below B w w' := (below_new h).mono hB

theorem write_any (B b : Nat) (bs : List Value) (s : ByteArray) (w : World) (h : Lib.IsBuilder 48 5 B b bs w) (hlen : bs.length + s.size ≤ 140737488355328) (hBw : B ≤ w.heap.size) :
    Calls Try.prog 24 #[.pointer (some ⟨b, 0, none⟩), .string s] w fun e w' => e = .returned (.tuple #[.int .i64 s.size, .nilIface]) ∧ (Lib.BuilderAt 48 5 B b (.pointer (some ⟨b, 0, none⟩)) (bs ++ Lib.strCells s) w' ∧ Below B w w') :=
  Any.Builder_WriteString (ρ := Try.lays105_ren) { Try.lays105 with } Try.Builder_Extra_105 B b bs s w h hlen hBw

theorem string_any (B b : Nat) (l : List UInt8) (w : World) (h : Lib.IsBuilder 48 5 B b (Lib.byteCells l) w) (hBw : B ≤ w.heap.size) :
    Calls Try.prog 28 #[.pointer (some ⟨b, 0, none⟩)] w fun e w' => e = .returned (.string ⟨l.toArray⟩) ∧ Below B w w' :=
  Try.Builder_String_any B b l w h hBw

theorem repeat_one (b : UInt8) (c : Nat) (w : World) (hc : c ≤ 1000) :
    Calls Try.prog 56 #[.string ⟨#[b]⟩, .int .i64 c] w (StrPost w (List.replicate c b)) := by
  refine (Try.strings_Repeat ⟨#[b]⟩ c w (by omega) ?_).mono ?_
  · show 1 * c ≤ _
    omega
  · rintro e w' ⟨rfl, hb⟩
    have e1 : Lib.repeatL [b] c = List.replicate c b := by
      induction c with
      | zero => rfl
      | succ n ih => simp [Lib.repeatL, List.replicate_succ] at ih ⊢; first | exact ih (by omega) | simp_all
    exact ⟨by rw [← e1], below_grows hb⟩

end Go.Proofs.Ytbhbbmocioefnaa
