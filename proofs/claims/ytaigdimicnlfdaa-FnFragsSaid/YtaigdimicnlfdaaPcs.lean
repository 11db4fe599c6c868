/- Rows of pieces (an int and a text), the laws' own helpers of them: their size, a copy of them, whether two rows of them are the same. -/
import Derived.Test.YtaigdimicnlfdaaDrawB
import Derived.Deep.RegionHeld3
namespace Go.Proofs.Ytaigdimicnlfdaa
open Go.RowKit

theorem grownBy_drew {a : World} {r : Option Nat} : a.grownBy a.drew r := ⟨rfl, rfl, rfl, Nat.le_refl _, fun _ _ _ => rfl⟩

abbrev Pk := Int × List UInt8
/-- The packets of a slice, in cells. -/
def PkAt (w : World) (a : Option Addr) (l : List Pk) : Prop :=
  l = [] ∨ ∃ b off, a = some ⟨b, off, none⟩ ∧ b < w.heap.size ∧ ∀ i (h : i < l.length), w.cell? ⟨b, off + i * 2, none⟩ = some (.int .i64 (l[i]).1) ∧ w.cell? ⟨b, off + i * 2 + 1, none⟩ = some (.string ⟨(l[i]).2.toArray⟩)
theorem PkAt.kept {w w' : World} {a : Option Addr} {l : List Pk} (h : PkAt w a l) (hg : w.grownBy w' none) : PkAt w' a l := by
  rcases h with h | ⟨b, off, ha, hb, hc⟩
  · exact .inl h
  · exact .inr ⟨b, off, ha, Nat.lt_of_lt_of_le hb hg.size, fun i hi => ⟨hg.cell (hc i hi).1 (by simp), hg.cell (hc i hi).2 (by simp)⟩⟩

theorem all_next {α : Type} {P : α → Prop} (l : List α) (j : Nat) (h : j < l.length) (ha : ∀ x ∈ l.take j, P x) (hx : P l[j]) : ∀ x ∈ l.take (j + 1), P x := by
  intro x hm
  rw [List.take_succ_eq_append_getElem h, List.mem_append, List.mem_singleton] at hm
  rcases hm with hm | rfl
  · exact ha x hm
  · exact hx

def pkV (p : Pk) : List Value := [.int .i64 p.1, .string ⟨p.2.toArray⟩]
def pksV (l : List Pk) : List Value := l.flatMap pkV
theorem pksV_len : ∀ l : List Pk, (pksV l).length = l.length * 2
  | [] => rfl
  | p :: l => by
    have := pksV_len l
    simp only [pksV, List.flatMap_cons, List.length_append, List.length_cons] at this ⊢
    rw [this]
    simp [pkV]
    omega
theorem pksV_get : ∀ (l : List Pk) (i : Nat) (h : i < l.length), (pksV l)[i * 2]? = some (.int .i64 (l[i]).1) ∧ (pksV l)[i * 2 + 1]? = some (.string ⟨(l[i]).2.toArray⟩)
  | p :: l, 0, _ => by simp [pksV, pkV]
  | p :: l, i + 1, h => by
    have a := pksV_get l i (by simpa using h)
    have e : pksV (p :: l) = .int .i64 p.1 :: .string ⟨p.2.toArray⟩ :: pksV l := rfl
    rw [e, show (i + 1) * 2 = i * 2 + 1 + 1 from by omega]
    simpa using a
theorem pks_set (l : List Pk) (M : List Value) (j : Nat) (h : j < l.length) (hM : M.length = l.length * 2) :
    ((pksV (l.take j) ++ M.drop (j * 2)).set (j * 2) (.int .i64 (l[j]).1)).set (j * 2 + 1) (.string ⟨(l[j]).2.toArray⟩) = pksV (l.take (j + 1)) ++ M.drop ((j + 1) * 2) := by
  have e1 : M.drop (j * 2) = M[j * 2] :: M[j * 2 + 1] :: M.drop ((j + 1) * 2) := by
    rw [List.drop_eq_getElem_cons (by omega), List.drop_eq_getElem_cons (by omega)]
    rw [show (j + 1) * 2 = j * 2 + 1 + 1 from by omega]
  have e2 : (pksV (l.take j)).length = j * 2 := by rw [pksV_len, List.length_take]; omega
  have e3 : pksV (l.take (j + 1)) = pksV (l.take j) ++ pkV l[j] := by
    rw [List.take_succ_eq_append_getElem h, pksV, List.flatMap_append]
    simp [pksV]
  rw [e1, e3, List.set_append_right _ _ (by omega), List.set_append_right _ _ (by omega), e2]
  simp [pkV]

theorem pkAt_own {w : World} {base : Nat} {e : TypeId} {g n c : Nat} {l : List Pk} (h : w.ownsRow base e 2 (.slice (some ⟨g, 0, none⟩) n c) n (pksV l)) (hn : n = l.length) : PkAt w (some ⟨g, 0, none⟩) l := by
  subst hn
  refine .inr ⟨g, 0, rfl, (h.lt g rfl).2, fun i hi => ?_⟩
  obtain ⟨a, b⟩ := pksV_get l i hi
  rw [Nat.zero_add, h.cellAt (i * 2) (by omega), h.cellAt (i * 2 + 1) (by omega)]
  exact ⟨a, b⟩

def SzRel (w : World) (l : List Pk) (k i : Value) (wr : World) : Prop :=
  ∃ (j : Nat) (q : Int), j ≤ l.length ∧ i = .int .i64 j ∧ k = .int .i64 q ∧ 0 ≤ q ∧ q ≤ 1048576 ∧ w.grownBy wr none ∧ ∀ x ∈ l.take j, x.2.length ≤ 1048576
def SzPost (w : World) (l : List Pk) (e : Ending) (w' : World) : Prop :=
  ∃ q : Int, e = .returned (.int .i64 q) ∧ w.grownBy w' none ∧ (0 ≤ q → l.length ≤ 1048576 ∧ ∀ x ∈ l, x.2.length ≤ 1048576)

theorem infoPk : (Try.prog.info? 57).map (fun i => (i.zero, i.size, i.bytes)) = some (some (.agg #[.int .i64 0, .string ⟨#[]⟩]), 2, 24) := by kernel_rfl

theorem info_of {T : TypeId} {z : Value} {s b : Nat} (h : (Try.prog.info? T).map (fun i => (i.zero, i.size, i.bytes)) = some (some z, s, b)) : ∃ i, Try.prog.info? T = some i ∧ i.zero = some z ∧ i.size = s ∧ i.bytes = b := by
  cases hi : Try.prog.info? T with
  | none => rw [hi] at h; cases h
  | some i =>
    rw [hi] at h
    simp at h
    exact ⟨i, rfl, h.1, h.2.1, h.2.2⟩

def ToRel (w : World) (l : List Pk) (M : List Value) (i : Value) (wr : World) : Prop :=
  ∃ j : Nat, j ≤ l.length ∧ i = .int .i64 j ∧ w.grownBy wr none ∧ wr.ownsRow w.heap.size 57 2 (.slice (some ⟨w.heap.size, 0, none⟩) l.length l.length) l.length (pksV (l.take j) ++ M.drop (j * 2))
def ToPost (w : World) (l : List Pk) (e : Ending) (w' : World) : Prop :=
  ∃ g : Nat, e = .returned (.slice (some ⟨g, 0, none⟩) l.length l.length) ∧ w.grownBy w' none ∧ PkAt w' (some ⟨g, 0, none⟩) l

def EqRel (w : World) (n : Nat) (i : Value) (wr : World) : Prop := ∃ j : Nat, j ≤ n ∧ i = .int .i64 j ∧ w.grownBy wr none

/-- A list out of what is known at each index. -/
theorem list_of {α : Type} {P : Nat → α → Prop} : ∀ n : Nat, (∀ i, i < n → ∃ x, P i x) → ∃ l : List α, l.length = n ∧ ∀ i (h : i < l.length), P i l[i]
  | 0, _ => ⟨[], rfl, fun i h => by simp at h⟩
  | n + 1, h => by
    obtain ⟨l, hl, hp⟩ := list_of n (fun i hi => h i (by omega))
    obtain ⟨x, hx⟩ := h n (by omega)
    refine ⟨l ++ [x], by simp [hl], fun i hi => ?_⟩
    by_cases e : i < l.length
    · rw [List.getElem_append_left e]
      exact hp i e
    · have e2 : i = l.length := by simp at hi; omega
      subst e2
      rw [List.getElem_append_right (Nat.le_refl _)]
      simp only [Nat.sub_self, List.getElem_cons_zero]
      rw [hl]
      exact hx

theorem pkAt_of {w : World} {x : Addr} {l : List Pk} (h : ∀ i (hi : i < l.length), w.cell? (x.add (i * 2)) = some (.int .i64 (l[i]).1) ∧ w.cell? (x.add (i * 2 + 1)) = some (.string ⟨(l[i]).2.toArray⟩)) : PkAt w (some x) l := by
  obtain ⟨b, off, spot⟩ := x
  by_cases h0 : l.length = 0
  · exact .inl (List.length_eq_zero_iff.mp h0)
  · have c0 := (h 0 (by omega)).1
    have hs : spot = none := by simpa [Addr.add] using World.cell?_spot c0
    subst hs
    have hb : b < w.heap.size := by
      have := World.block_lt_of_cell? w _ c0
      simpa [Addr.add] using this
    refine .inr ⟨b, off, rfl, hb, fun i hi => ?_⟩
    obtain ⟨ci, di⟩ := h i hi
    have e1 : (⟨b, off, none⟩ : Addr).add (i * 2) = ⟨b, off + i * 2, none⟩ := by
      by_cases e : i = 0
      · subst e; simp [Addr.add]
      · have e' : i * 2 ≠ 0 := by omega
        simp [Addr.add, e']
    have e2 : (⟨b, off, none⟩ : Addr).add (i * 2 + 1) = ⟨b, off + i * 2 + 1, none⟩ := by simp [Addr.add]; omega
    rw [e1] at ci
    rw [e2] at di
    exact ⟨ci, di⟩

end Go.Proofs.Ytaigdimicnlfdaa
