/- Rows of frags as owned memory: sizes, copies, whether two rows are the same, marks. -/
import Derived.Test.YtaigdimicnlfdaaPcMark
import Derived.Deep.RegionHeld3
import Derived.Deep.Slices
import Derived.Lib.AppendZeros
namespace Go.Proofs.Ytaigdimicnlfdaa
open Go.RowKit Go.ChangeShapes Go.WideShapes

structure Fg where
  f : Int
  m : Bool
  d : List UInt8
def FgAt (w : World) (a : Option Addr) (l : List Fg) : Prop :=
  l = [] ∨ ∃ b off, a = some ⟨b, off, none⟩ ∧ b < w.heap.size ∧ ∀ i (h : i < l.length), w.cell? ⟨b, off + i * 3, none⟩ = some (.int .i64 (l[i]).f) ∧ w.cell? ⟨b, off + i * 3 + 1, none⟩ = some (.bool (l[i]).m) ∧ w.cell? ⟨b, off + i * 3 + 2, none⟩ = some (.string ⟨(l[i]).d.toArray⟩)
theorem FgAt.kept {w w' : World} {a : Option Addr} {l : List Fg} (h : FgAt w a l) (hg : w.grownBy w' none) : FgAt w' a l := by
  rcases h with h | ⟨b, off, ha, hb, hc⟩
  · exact .inl h
  · refine .inr ⟨b, off, ha, Nat.lt_of_lt_of_le hb hg.size, fun i hi => ?_⟩
    obtain ⟨c0, c1, c2⟩ := hc i hi
    exact ⟨hg.cell c0 (by simp), hg.cell c1 (by simp), hg.cell c2 (by simp)⟩
def fgV (p : Fg) : List Value := [.int .i64 p.f, .bool p.m, .string ⟨p.d.toArray⟩]
def fgsV (l : List Fg) : List Value := l.flatMap fgV
theorem fgsV_len : ∀ l : List Fg, (fgsV l).length = l.length * 3
  | [] => rfl
  | p :: l => by
    have := fgsV_len l
    simp only [fgsV, List.flatMap_cons, List.length_append, List.length_cons] at this ⊢
    rw [this]
    simp [fgV]
    omega
theorem fgsV_get : ∀ (l : List Fg) (i : Nat) (h : i < l.length), (fgsV l)[i * 3]? = some (.int .i64 (l[i]).f) ∧ (fgsV l)[i * 3 + 1]? = some (.bool (l[i]).m) ∧ (fgsV l)[i * 3 + 2]? = some (.string ⟨(l[i]).d.toArray⟩)
  | p :: l, 0, _ => by simp [fgsV, fgV]
  | p :: l, i + 1, h => by
    have a := fgsV_get l i (by simpa using h)
    have e : fgsV (p :: l) = .int .i64 p.f :: .bool p.m :: .string ⟨p.d.toArray⟩ :: fgsV l := rfl
    rw [e, show (i + 1) * 3 = i * 3 + 1 + 1 + 1 from by omega]
    simpa using a
theorem fgs_set (l : List Fg) (M : List Value) (j : Nat) (h : j < l.length) (hM : M.length = l.length * 3) :
    ((((fgsV (l.take j) ++ M.drop (j * 3)).set (j * 3) (.int .i64 (l[j]).f)).set (j * 3 + 1) (.bool (l[j]).m)).set (j * 3 + 2) (.string ⟨(l[j]).d.toArray⟩)) = fgsV (l.take (j + 1)) ++ M.drop ((j + 1) * 3) := by
  have e1 : M.drop (j * 3) = M[j * 3] :: M[j * 3 + 1] :: M[j * 3 + 2] :: M.drop ((j + 1) * 3) := by
    rw [List.drop_eq_getElem_cons (by omega), List.drop_eq_getElem_cons (by omega), List.drop_eq_getElem_cons (by omega)]
    rw [show (j + 1) * 3 = j * 3 + 1 + 1 + 1 from by omega]
  have e2 : (fgsV (l.take j)).length = j * 3 := by rw [fgsV_len, List.length_take]; omega
  have e3 : fgsV (l.take (j + 1)) = fgsV (l.take j) ++ fgV l[j] := by
    rw [List.take_succ_eq_append_getElem h, fgsV, List.flatMap_append]
    simp [fgsV]
  rw [e1, e3, List.set_append_right _ _ (by omega), List.set_append_right _ _ (by omega), List.set_append_right _ _ (by omega), e2]
  simp [fgV]
theorem fgsV_snoc (l : List Fg) (x : Fg) : fgsV (l ++ [x]) = fgsV l ++ [.int .i64 x.f, .bool x.m, .string ⟨x.d.toArray⟩] := by simp [fgsV, fgV]
abbrev OwnFg (w : World) (base : Nat) (a : Option Addr) (c : Nat) (l : List Fg) : Prop := w.ownsRow base 30 3 (.slice a l.length c) l.length (fgsV l)
theorem fgAt_own {w : World} {base : Nat} {e : TypeId} {g n c : Nat} {l : List Fg} (h : w.ownsRow base e 3 (.slice (some ⟨g, 0, none⟩) n c) n (fgsV l)) (hn : n = l.length) : FgAt w (some ⟨g, 0, none⟩) l := by
  subst hn
  refine .inr ⟨g, 0, rfl, (h.lt g rfl).2, fun i hi => ?_⟩
  have hx := fgsV_get l i hi
  rw [Nat.zero_add, h.cellAt (i * 3) (by omega), h.cellAt (i * 3 + 1) (by omega), h.cellAt (i * 3 + 2) (by omega)]
  exact hx
theorem fg_own {w : World} {base : Nat} {e : TypeId} {ao : Option Addr} {c : Nat} {l : List Fg} (h : w.ownsRow base e 3 (.slice ao l.length c) l.length (fgsV l)) : FgAt w ao l := by
  rcases h.2 with ⟨_, h0⟩ | ⟨g, cap', cur, hv, _⟩
  · exact .inl (List.length_eq_zero_iff.mp h0)
  · simp at hv
    obtain ⟨rfl, rfl⟩ := hv
    exact fgAt_own h rfl
theorem fgAt_of {w : World} {x : Addr} {l : List Fg} (h : ∀ i (hi : i < l.length), w.cell? (x.add (i * 3)) = some (.int .i64 (l[i]).f) ∧ w.cell? (x.add (i * 3 + 1)) = some (.bool (l[i]).m) ∧ w.cell? (x.add (i * 3 + 2)) = some (.string ⟨(l[i]).d.toArray⟩)) : FgAt w (some x) l := by
  obtain ⟨b, off, spot⟩ := x
  by_cases h0 : l.length = 0
  · exact .inl (List.length_eq_zero_iff.mp h0)
  · have c0 := (h 0 (by omega)).1
    have hs : spot = none := by simpa [Addr.add] using World.cell?_spot c0
    subst hs
    have hb : b < w.heap.size := by
      have := World.block_lt_of_cell? w _ c0
      simpa [Addr.add] using this
    refine .inr ⟨b, off, rfl, hb, fun i hi => ?_⟩
    have hx := h i hi
    have e0 : (⟨b, off, none⟩ : Addr).add (i * 3) = ⟨b, off + i * 3, none⟩ := by
      by_cases e : i = 0
      · subst e; simp [Addr.add]
      · have e' : i * 3 ≠ 0 := by omega
        simp [Addr.add, e']
    have e1 : (⟨b, off, none⟩ : Addr).add (i * 3 + 1) = ⟨b, off + i * 3 + 1, none⟩ := by simp [Addr.add]; omega
    have e2 : (⟨b, off, none⟩ : Addr).add (i * 3 + 2) = ⟨b, off + i * 3 + 2, none⟩ := by simp [Addr.add]; omega
    rw [e0, e1, e2] at hx
    exact hx
theorem infoFg : (Try.prog.info? 30).map (fun i => (i.zero, i.size, i.bytes)) = some (some (.agg #[.int .i64 0, .bool false, .string ⟨#[]⟩]), 3, 32) := by kernel_rfl

section
variable {H : Type} {enc : TypeId × Value → H} {P : Program} {w : World} {base : Nat} {spare : Nat → Bool} {held : Bool}
theorem open_fgs {t e : TypeId} {f0 f1 f2 : Field} {fuel : Nat} {cs : List Value} {x : DataW H × List MemPlace} (ht : P.underlying t = some (.slice e)) (he : P.underlying e = some (.struct #[f0, f1, f2])) (ce : P.cellsOf e = 3)
    (oo : f0.offset = 0 ∧ f1.offset = 1 ∧ f2.offset = 2) (cc : P.cellsOf f0.type = 1 ∧ P.cellsOf f1.type = 1 ∧ P.cellsOf f2.type = 1)
    (h : DataW.trod enc P w base spare held fuel t cs = some x) :
    cs = [.slice none 0 0] ∨ ∃ (a : Addr) (len cap n : Nat), cs = [.slice (some a) len cap] ∧ len ≤ cap ∧ cap ≤ maxLen ∧
      ∀ i, i < len → ∃ (v0 v1 v2 : Value) (y0 y1 y2 : DataW H × List MemPlace), w.cell? (a.add (i * 3)) = some v0 ∧ w.cell? (a.add (i * 3 + 1)) = some v1 ∧ w.cell? (a.add (i * 3 + 2)) = some v2 ∧ DataW.trod enc P w base spare held n f0.type [v0] = some y0 ∧ DataW.trod enc P w base spare held n f1.type [v1] = some y1 ∧ DataW.trod enc P w base spare held n f2.type [v2] = some y2 := by
  rcases Deep.open_slice ht h with ⟨h0, _⟩ | ⟨a, len, cap, m, n, D, Pl, rfl, hb, hl, hm, hmm, rfl, hx⟩
  · exact Or.inl h0
  right
  refine ⟨a, len, cap, n - 1, rfl, hl, hm, fun i hi => ?_⟩
  have him : i < m := by rw [hmm]; split <;> omega
  obtain ⟨cs', h1, h2⟩ := hx i him
  rw [ce] at h1
  obtain ⟨_, hlen, hcell⟩ := World.cells?_some h1
  obtain ⟨xs, k, hk, hxy, _, hxl, hf⟩ := DataW.trod_struct he h2
  have hk' : k = n - 1 := by omega
  subst hk'
  obtain ⟨o0, o1, o2⟩ := oo
  obtain ⟨c0, c1, c2⟩ := cc
  match xs, hxl, cs', hlen with
  | [y0, y1, y2], _, [v0, v1, v2], _ =>
    have g0 := hf 0 f0 rfl
    have g1 := hf 1 f1 rfl
    have g2 := hf 2 f2 rfl
    simp [o0, o1, o2, c0, c1, c2] at g0 g1 g2
    have e0 := hcell 0 (by omega)
    have e1 := hcell 1 (by omega)
    have e2 := hcell 2 (by omega)
    rw [Deep.add_add] at e0 e1 e2
    exact ⟨v0, v1, v2, y0, y1, y2, by simpa using e0, by simpa using e1, by simpa using e2, g0, g1, g2⟩
end

def EqFgRel (w : World) (n : Nat) (i : Value) (wr : World) : Prop := ∃ j : Nat, j ≤ n ∧ i = .int .i64 j ∧ w.grownBy wr none
theorem efg {w u v : World} {xf : Int} {xm : Bool} {xd : List UInt8} {b1 b2 off1 off2 j : Nat} (h : u.cell? ⟨b1, off1 + j * 3, none⟩ = some (.int .i64 xf) ∧ u.cell? ⟨b1, off1 + j * 3 + 1, none⟩ = some (.bool xm) ∧ u.cell? ⟨b1, off1 + j * 3 + 2, none⟩ = some (.string ⟨xd.toArray⟩) ∧ u.cell? ⟨b2, off2 + j * 3, none⟩ = some (.int .i64 xf) ∧ u.cell? ⟨b2, off2 + j * 3 + 1, none⟩ = some (.bool xm) ∧ u.cell? ⟨b2, off2 + j * 3 + 2, none⟩ = some (.string ⟨xd.toArray⟩) ∧ w.grownBy u none) (hg : u.grownBy v none) : v.cell? ⟨b1, off1 + j * 3, none⟩ = some (.int .i64 xf) ∧ v.cell? ⟨b1, off1 + j * 3 + 1, none⟩ = some (.bool xm) ∧ v.cell? ⟨b1, off1 + j * 3 + 2, none⟩ = some (.string ⟨xd.toArray⟩) ∧ v.cell? ⟨b2, off2 + j * 3, none⟩ = some (.int .i64 xf) ∧ v.cell? ⟨b2, off2 + j * 3 + 1, none⟩ = some (.bool xm) ∧ v.cell? ⟨b2, off2 + j * 3 + 2, none⟩ = some (.string ⟨xd.toArray⟩) ∧ w.grownBy v none := by
  obtain ⟨h0, h1, h2, h3, h4, h5, hh⟩ := h
  exact ⟨hg.cell h0 (by simp), hg.cell h1 (by simp), hg.cell h2 (by simp), hg.cell h3 (by simp), hg.cell h4 (by simp), hg.cell h5 (by simp), grownBy_trans hh hg⟩

def ToFgRel (w : World) (l : List Fg) (M : List Value) (i : Value) (wr : World) : Prop :=
  ∃ j : Nat, j ≤ l.length ∧ i = .int .i64 j ∧ w.grownBy wr none ∧ wr.ownsRow w.heap.size 30 3 (.slice (some ⟨w.heap.size, 0, none⟩) l.length l.length) l.length (fgsV (l.take j) ++ M.drop (j * 3))
def ToFgPost (w : World) (l : List Fg) (e : Ending) (w' : World) : Prop :=
  e = .returned (.slice (some ⟨w.heap.size, 0, none⟩) l.length l.length) ∧ w.grownBy w' none ∧ w'.ownsRow w.heap.size 30 3 (.slice (some ⟨w.heap.size, 0, none⟩) l.length l.length) l.length (fgsV l)

def SzFgRel (w : World) (l : List Fg) (k i : Value) (wr : World) : Prop :=
  ∃ (j : Nat) (q : Int), j ≤ l.length ∧ i = .int .i64 j ∧ k = .int .i64 q ∧ 0 ≤ q ∧ q ≤ 1048576 ∧ w.grownBy wr none ∧ ∀ x ∈ l.take j, x.d.length ≤ 1048576
def SzFgPost (w : World) (l : List Fg) (e : Ending) (w' : World) : Prop :=
  ∃ q : Int, e = .returned (.int .i64 q) ∧ w.grownBy w' none ∧ (0 ≤ q → l.length ≤ 1048576 ∧ ∀ x ∈ l, x.d.length ≤ 1048576)

end Go.Proofs.Ytaigdimicnlfdaa
