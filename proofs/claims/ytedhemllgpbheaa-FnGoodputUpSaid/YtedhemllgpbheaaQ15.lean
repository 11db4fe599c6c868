/- Rg7 -/
import Derived.Test.YtedhemllgpbheaaQ14
namespace Go.Proofs.Ytedhemllgpbheaa.P7
open Go.RowKit

abbrev Rg := Int × Int

def RgAt (w : World) (a : Option Addr) (l : List Rg) : Prop :=
  l = [] ∨ ∃ b off, a = some ⟨b, off, none⟩ ∧ b < w.heap.size ∧ ∀ i (h : i < l.length), w.cell? ⟨b, off + i * 2, none⟩ = some (.int .i64 (l[i]).1) ∧ w.cell? ⟨b, off + i * 2 + 1, none⟩ = some (.int .i64 (l[i]).2)

theorem RgAt.kept {w w' : World} {a : Option Addr} {l : List Rg} (h : RgAt w a l) (hg : w.grownBy w' none) : RgAt w' a l := by
  rcases h with h | ⟨b, off, ha, hb, hc⟩
  · exact .inl h
  · exact .inr ⟨b, off, ha, Nat.lt_of_lt_of_le hb hg.size, fun i hi => ⟨hg.cell (hc i hi).1 (by simp), hg.cell (hc i hi).2 (by simp)⟩⟩

def rgV (p : Rg) : List Value := [.int .i64 p.1, .int .i64 p.2]

def rgsV (l : List Rg) : List Value := l.flatMap rgV

theorem rgsV_len : ∀ l : List Rg, (rgsV l).length = l.length * 2
  | [] => rfl
  | p :: l => by
    have := rgsV_len l
    simp only [rgsV, List.flatMap_cons, List.length_append, List.length_cons] at this ⊢
    rw [this]
    simp [rgV]
    omega

theorem rgsV_get : ∀ (l : List Rg) (i : Nat) (h : i < l.length), (rgsV l)[i * 2]? = some (.int .i64 (l[i]).1) ∧ (rgsV l)[i * 2 + 1]? = some (.int .i64 (l[i]).2)
  | p :: l, 0, _ => by simp [rgsV, rgV]
  | p :: l, i + 1, h => by
    have a := rgsV_get l i (by simpa using h)
    have e : rgsV (p :: l) = .int .i64 p.1 :: .int .i64 p.2 :: rgsV l := rfl
    rw [e, show (i + 1) * 2 = i * 2 + 1 + 1 from by omega]
    simpa using a

theorem infoRg : (Try.prog.info? 44).map (fun i => (i.zero, i.size, i.bytes)) = some (some (.agg #[.int .i64 0, .int .i64 0]), 2, 16) := by kernel_rfl

end Go.Proofs.Ytedhemllgpbheaa.P7

