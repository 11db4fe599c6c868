/- Windows: rows of events, and events one by one as a function of lists. -/
import Derived.Test.YtklbnpnngfoecaaRnX
import Derived.Test.YtklbnpnngfoecaaRnP
import Derived.Test.YtklbnpnngfoecaaDst
import Derived.LoopTactic
namespace Go.Proofs.Ytklbnpnngfoecaa
open Go.RowKit

def EvAt (w : World) (a : Option Addr) (l : List Ev) : Prop :=
  l = [] ∨ ∃ b off, a = some ⟨b, off, none⟩ ∧ b < w.heap.size ∧ ∀ i (h : i < l.length), w.cell? ⟨b, off + i * 5, none⟩ = some (.int .i64 (l[i]).k) ∧ w.cell? ⟨b, off + i * 5 + 1, none⟩ = some (.int .i64 (l[i]).n) ∧ w.cell? ⟨b, off + i * 5 + 2, none⟩ = some (.int .i64 (l[i]).a) ∧ w.cell? ⟨b, off + i * 5 + 3, none⟩ = some (.int .i64 (l[i]).f) ∧ w.cell? ⟨b, off + i * 5 + 4, none⟩ = some (.int .i64 (l[i]).x)
theorem EvAt.kept {w w' : World} {a : Option Addr} {l : List Ev} (h : EvAt w a l) (hg : w.grownBy w' none) : EvAt w' a l := by
  rcases h with h | ⟨b, off, ha, hb, hc⟩
  · exact .inl h
  · exact .inr ⟨b, off, ha, Nat.lt_of_lt_of_le hb hg.size, fun i hi => let ⟨c0, c1, c2, c3, c4⟩ := hc i hi; ⟨hg.cell c0 (by simp), hg.cell c1 (by simp), hg.cell c2 (by simp), hg.cell c3 (by simp), hg.cell c4 (by simp)⟩⟩

def play (r : Rn) : List Ev → Rn × Nat
  | [] => (r, 0)
  | e :: l => if evOk e = true then ((play (rnStep r e) l).1, (play (rnStep r e) l).2 + 1) else (r, 0)
def PlayAt (r0 : Rn) (l : List Ev) (j : Nat) (r : Rn) : Prop := play r0 l = ((play r (l.drop j)).1, j + (play r (l.drop j)).2)
theorem PlayAt.start (r0 : Rn) (l : List Ev) : PlayAt r0 l 0 r0 := by unfold PlayAt; simp
theorem PlayAt.next {r0 r : Rn} {l : List Ev} {j : Nat} (h : PlayAt r0 l j r) (hj : j < l.length) (he : evOk l[j] = true) : PlayAt r0 l (j + 1) (rnStep r l[j]) := by
  unfold PlayAt at h ⊢
  rw [List.drop_eq_getElem_cons hj, play, if_pos he] at h
  rw [h]
  simp only [Prod.mk.injEq, true_and]
  omega
theorem PlayAt.stop {r0 r : Rn} {l : List Ev} {j : Nat} (h : PlayAt r0 l j r) (hj : j < l.length) (he : evOk l[j] = false) : play r0 l = (r, j) := by
  unfold PlayAt at h
  rw [List.drop_eq_getElem_cons hj, play, if_neg (by rw [he]; decide)] at h
  exact h
theorem PlayAt.whole {r0 r : Rn} {l : List Ev} (h : PlayAt r0 l l.length r) : play r0 l = (r, l.length) := by
  unfold PlayAt at h
  rw [List.drop_length, play] at h
  exact h
def plV (r : Rn) (l : List Ev) : Value := if rnOk r = true ∧ l.length ≤ 200 then .tuple #[rnV (play r l).1, .int .i64 ((play r l).2 : Nat)] else .tuple #[rnV rnZ, .int .i64 (-1)]
theorem st_yes {r : Rn} {e : Ev} (h1 : rnOk r = true) (h2 : evOk e = true) : stV r e = .tuple #[rnV (rnStep r e), .bool true] := by
  unfold stV stR stB
  rw [h1, h2]
  rfl
theorem st_no {r : Rn} {e : Ev} (h2 : evOk e = false) : stV r e = .tuple #[rnV rnZ, .bool false] := by
  unfold stV stR stB
  rw [h2, Bool.and_false]
  rfl

end Go.Proofs.Ytklbnpnngfoecaa
