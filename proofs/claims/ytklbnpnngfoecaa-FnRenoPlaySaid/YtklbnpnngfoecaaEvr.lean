/- Windows: rows of events as owned memory: opened, copied, compared. -/
import Derived.Test.YtklbnpnngfoecaaRpS
import Derived.Test.YtklbnpnngfoecaaDraw
import Derived.Deep.RegionHeld3
import Derived.Deep.Slices
import Derived.Laws.IdiomStrings
import Derived.Lib.AppendZeros
import Derived.Laws.AppendOwnNone
import Derived.Deep.AppendLies
namespace Go.Proofs.Ytklbnpnngfoecaa
open Go.RowKit Go.ChangeShapes Go.WideShapes

section
variable {H : Type} {enc : TypeId × Value → H} {P : Program} {w : World} {base : Nat} {spare : Nat → Bool} {held : Bool}
theorem open_fives {t e : TypeId} {f0 f1 f2 f3 f4 : Field} {fuel : Nat} {cs : List Value} {x : DataW H × List MemPlace} (ht : P.underlying t = some (.slice e)) (he : P.underlying e = some (.struct #[f0, f1, f2, f3, f4])) (ce : P.cellsOf e = 5)
    (oo : f0.offset = 0 ∧ f1.offset = 1 ∧ f2.offset = 2 ∧ f3.offset = 3 ∧ f4.offset = 4) (cc : P.cellsOf f0.type = 1 ∧ P.cellsOf f1.type = 1 ∧ P.cellsOf f2.type = 1 ∧ P.cellsOf f3.type = 1 ∧ P.cellsOf f4.type = 1)
    (h : DataW.trod enc P w base spare held fuel t cs = some x) :
    cs = [.slice none 0 0] ∨ ∃ (a : Addr) (len cap n : Nat), cs = [.slice (some a) len cap] ∧ len ≤ cap ∧ cap ≤ maxLen ∧
      ∀ i, i < len → ∃ (v0 v1 v2 v3 v4 : Value) (y0 y1 y2 y3 y4 : DataW H × List MemPlace), w.cell? (a.add (i * 5)) = some v0 ∧ w.cell? (a.add (i * 5 + 1)) = some v1 ∧ w.cell? (a.add (i * 5 + 2)) = some v2 ∧ w.cell? (a.add (i * 5 + 3)) = some v3 ∧ w.cell? (a.add (i * 5 + 4)) = some v4 ∧ DataW.trod enc P w base spare held n f0.type [v0] = some y0 ∧ DataW.trod enc P w base spare held n f1.type [v1] = some y1 ∧ DataW.trod enc P w base spare held n f2.type [v2] = some y2 ∧ DataW.trod enc P w base spare held n f3.type [v3] = some y3 ∧ DataW.trod enc P w base spare held n f4.type [v4] = some y4 := by
  rcases Deep.open_slice ht h with ⟨h0, _⟩ | ⟨a, len, cap, m, n, D, Pl, rfl, hb, hl, hm, hmm, rfl, hx⟩
  · exact Or.inl h0
  right
  refine ⟨a, len, cap, n - 1, rfl, hl, hm, fun i hi => ?_⟩
  have him : i < m := by rw [hmm]; split <;> omega
  obtain ⟨cs', h1, h2⟩ := hx i him
  rw [ce] at h1
  obtain ⟨_, hlen, hcell⟩ := World.cells?_some h1
  obtain ⟨xs, k, hk, hxy, _, hxl, hf⟩ := DataW.trod_struct he h2
  have hk' : k = n - 1 := by omega
  subst hk'
  obtain ⟨o0, o1, o2, o3, o4⟩ := oo
  obtain ⟨c0, c1, c2, c3, c4⟩ := cc
  match xs, hxl, cs', hlen with
  | [y0, y1, y2, y3, y4], _, [v0, v1, v2, v3, v4], _ =>
    have g0 := hf 0 f0 rfl
    have g1 := hf 1 f1 rfl
    have g2 := hf 2 f2 rfl
    have g3 := hf 3 f3 rfl
    have g4 := hf 4 f4 rfl
    simp [o0, o1, o2, o3, o4, c0, c1, c2, c3, c4] at g0 g1 g2 g3 g4
    have e0 := hcell 0 (by omega)
    have e1 := hcell 1 (by omega)
    have e2 := hcell 2 (by omega)
    have e3 := hcell 3 (by omega)
    have e4 := hcell 4 (by omega)
    rw [Deep.add_add] at e0 e1 e2 e3 e4
    exact ⟨v0, v1, v2, v3, v4, y0, y1, y2, y3, y4, by simpa using e0, by simpa using e1, by simpa using e2, by simpa using e3, by simpa using e4, g0, g1, g2, g3, g4⟩
end

theorem list_of5 {α : Type} {P : Nat → α → Prop} : ∀ (n : Nat) (_ : ∀ i, i < n → ∃ a, P i a), ∃ l : List α, l.length = n ∧ ∀ i (hi : i < l.length), P i l[i]
  | 0, _ => ⟨[], rfl, fun i hi => by simp at hi⟩
  | n + 1, h => by
    obtain ⟨l, hl, hp⟩ := list_of5 n (fun i hi => h i (by omega))
    obtain ⟨a, ha⟩ := h n (by omega)
    refine ⟨l ++ [a], by simp [hl], fun i hi => ?_⟩
    by_cases hc : i < l.length
    · rw [List.getElem_append_left hc]
      exact hp i hc
    · have : i = n := by simp at hi; omega
      subst this
      rw [List.getElem_append_right (by omega)]
      simpa [hl] using ha

def EvX (W : World) (x : Addr) (i : Nat) (p : Ev) : Prop := W.cell? (x.add (i * 5)) = some (.int .i64 p.k) ∧ W.cell? (x.add (i * 5 + 1)) = some (.int .i64 p.n) ∧ W.cell? (x.add (i * 5 + 2)) = some (.int .i64 p.a) ∧ W.cell? (x.add (i * 5 + 3)) = some (.int .i64 p.f) ∧ W.cell? (x.add (i * 5 + 4)) = some (.int .i64 p.x)
theorem add_at (b off j : Nat) : (⟨b, off, none⟩ : Addr).add j = ⟨b, off + j, none⟩ := by
  by_cases e : j = 0
  · subst e; simp [Addr.add]
  · simp [Addr.add, e]
theorem evAt_of {w : World} {x : Addr} {l : List Ev} (h : ∀ i (hi : i < l.length), EvX w x i l[i]) : EvAt w (some x) l := by
  obtain ⟨b, off, spot⟩ := x
  by_cases h0 : l.length = 0
  · exact .inl (List.length_eq_zero_iff.mp h0)
  · have c0 := (h 0 (by omega)).1
    have hs : spot = none := by simpa [Addr.add] using World.cell?_spot c0
    subst hs
    have hb : b < w.heap.size := by
      have := World.block_lt_of_cell? w _ c0
      simpa [Addr.add] using this
    refine .inr ⟨b, off, rfl, hb, fun i hi => ?_⟩
    obtain ⟨e0, e1, e2, e3, e4⟩ := h i hi
    rw [add_at] at e0 e1 e2 e3 e4
    exact ⟨e0, e1, e2, e3, e4⟩

def evL (p : Ev) : List Value := [.int .i64 p.k, .int .i64 p.n, .int .i64 p.a, .int .i64 p.f, .int .i64 p.x]
def evsV (l : List Ev) : List Value := l.flatMap evL
theorem evsV_len : ∀ l : List Ev, (evsV l).length = l.length * 5
  | [] => rfl
  | p :: l => by
    have := evsV_len l
    simp only [evsV, List.flatMap_cons, List.length_append, List.length_cons] at this ⊢
    rw [this]
    simp [evL]
    omega
theorem evsV_get : ∀ (l : List Ev) (i : Nat) (h : i < l.length), (evsV l)[i * 5]? = some (.int .i64 (l[i]).k) ∧ (evsV l)[i * 5 + 1]? = some (.int .i64 (l[i]).n) ∧ (evsV l)[i * 5 + 2]? = some (.int .i64 (l[i]).a) ∧ (evsV l)[i * 5 + 3]? = some (.int .i64 (l[i]).f) ∧ (evsV l)[i * 5 + 4]? = some (.int .i64 (l[i]).x)
  | p :: l, 0, _ => by simp [evsV, evL]
  | p :: l, i + 1, h => by
    have a := evsV_get l i (by simpa using h)
    have e : evsV (p :: l) = .int .i64 p.k :: .int .i64 p.n :: .int .i64 p.a :: .int .i64 p.f :: .int .i64 p.x :: evsV l := rfl
    rw [e, show (i + 1) * 5 = i * 5 + 1 + 1 + 1 + 1 + 1 from by omega]
    simpa using a
theorem evs_set (l : List Ev) (M : List Value) (j : Nat) (h : j < l.length) (hM : M.length = l.length * 5) :
    ((((((evsV (l.take j) ++ M.drop (j * 5)).set (j * 5) (.int .i64 (l[j]).k)).set (j * 5 + 1) (.int .i64 (l[j]).n)).set (j * 5 + 2) (.int .i64 (l[j]).a)).set (j * 5 + 3) (.int .i64 (l[j]).f)).set (j * 5 + 4) (.int .i64 (l[j]).x)) = evsV (l.take (j + 1)) ++ M.drop ((j + 1) * 5) := by
  have e1 : M.drop (j * 5) = M[j * 5] :: M[j * 5 + 1] :: M[j * 5 + 2] :: M[j * 5 + 3] :: M[j * 5 + 4] :: M.drop ((j + 1) * 5) := by
    rw [List.drop_eq_getElem_cons (by omega), List.drop_eq_getElem_cons (by omega), List.drop_eq_getElem_cons (by omega), List.drop_eq_getElem_cons (by omega), List.drop_eq_getElem_cons (by omega)]
    rw [show (j + 1) * 5 = j * 5 + 1 + 1 + 1 + 1 + 1 from by omega]
  have e2 : (evsV (l.take j)).length = j * 5 := by rw [evsV_len, List.length_take]; omega
  have e3 : evsV (l.take (j + 1)) = evsV (l.take j) ++ evL l[j] := by
    rw [List.take_succ_eq_append_getElem h, evsV, List.flatMap_append]
    simp [evsV]
  rw [e1, e3, List.set_append_right _ _ (by omega), List.set_append_right _ _ (by omega), List.set_append_right _ _ (by omega), List.set_append_right _ _ (by omega), List.set_append_right _ _ (by omega), e2]
  simp [evL]
theorem evAt_own {w : World} {base : Nat} {e : TypeId} {g n c : Nat} {l : List Ev} (h : w.ownsRow base e 5 (.slice (some ⟨g, 0, none⟩) n c) n (evsV l)) (hn : n = l.length) : EvAt w (some ⟨g, 0, none⟩) l := by
  subst hn
  refine .inr ⟨g, 0, rfl, (h.lt g rfl).2, fun i hi => ?_⟩
  have hg := evsV_get l i hi
  rw [Nat.zero_add, h.cellAt (i * 5) (by omega), h.cellAt (i * 5 + 1) (by omega), h.cellAt (i * 5 + 2) (by omega), h.cellAt (i * 5 + 3) (by omega), h.cellAt (i * 5 + 4) (by omega)]
  exact hg

theorem infoEv : (Try.prog.info? 41).map (fun i => (i.zero, i.size, i.bytes)) = some (some (.agg #[.int .i64 0, .int .i64 0, .int .i64 0, .int .i64 0, .int .i64 0]), 5, 40) := by kernel_rfl
theorem info_of5 {T : TypeId} {z : Value} {s b : Nat} (h : (Try.prog.info? T).map (fun i => (i.zero, i.size, i.bytes)) = some (some z, s, b)) : ∃ i, Try.prog.info? T = some i ∧ i.zero = some z ∧ i.size = s ∧ i.bytes = b := by
  cases hi : Try.prog.info? T with
  | none => rw [hi] at h; cases h
  | some i =>
    rw [hi] at h
    simp at h
    exact ⟨i, rfl, h.1, h.2.1, h.2.2⟩

theorem e10 {w u v : World} {k n a f x : Int} {b1 b2 off1 off2 j : Nat} (h : u.cell? ⟨b1, off1 + j * 5, none⟩ = some (.int .i64 k) ∧ u.cell? ⟨b1, off1 + j * 5 + 1, none⟩ = some (.int .i64 n) ∧ u.cell? ⟨b1, off1 + j * 5 + 2, none⟩ = some (.int .i64 a) ∧ u.cell? ⟨b1, off1 + j * 5 + 3, none⟩ = some (.int .i64 f) ∧ u.cell? ⟨b1, off1 + j * 5 + 4, none⟩ = some (.int .i64 x) ∧ u.cell? ⟨b2, off2 + j * 5, none⟩ = some (.int .i64 k) ∧ u.cell? ⟨b2, off2 + j * 5 + 1, none⟩ = some (.int .i64 n) ∧ u.cell? ⟨b2, off2 + j * 5 + 2, none⟩ = some (.int .i64 a) ∧ u.cell? ⟨b2, off2 + j * 5 + 3, none⟩ = some (.int .i64 f) ∧ u.cell? ⟨b2, off2 + j * 5 + 4, none⟩ = some (.int .i64 x) ∧ w.grownBy u none) (hg : u.grownBy v none) : v.cell? ⟨b1, off1 + j * 5, none⟩ = some (.int .i64 k) ∧ v.cell? ⟨b1, off1 + j * 5 + 1, none⟩ = some (.int .i64 n) ∧ v.cell? ⟨b1, off1 + j * 5 + 2, none⟩ = some (.int .i64 a) ∧ v.cell? ⟨b1, off1 + j * 5 + 3, none⟩ = some (.int .i64 f) ∧ v.cell? ⟨b1, off1 + j * 5 + 4, none⟩ = some (.int .i64 x) ∧ v.cell? ⟨b2, off2 + j * 5, none⟩ = some (.int .i64 k) ∧ v.cell? ⟨b2, off2 + j * 5 + 1, none⟩ = some (.int .i64 n) ∧ v.cell? ⟨b2, off2 + j * 5 + 2, none⟩ = some (.int .i64 a) ∧ v.cell? ⟨b2, off2 + j * 5 + 3, none⟩ = some (.int .i64 f) ∧ v.cell? ⟨b2, off2 + j * 5 + 4, none⟩ = some (.int .i64 x) ∧ w.grownBy v none := by
  obtain ⟨h0, h1, h2, h3, h4, h5, h6, h7, h8, h9, hh⟩ := h
  exact ⟨hg.cell h0 (by simp), hg.cell h1 (by simp), hg.cell h2 (by simp), hg.cell h3 (by simp), hg.cell h4 (by simp), hg.cell h5 (by simp), hg.cell h6 (by simp), hg.cell h7 (by simp), hg.cell h8 (by simp), hg.cell h9 (by simp), grownBy_trans hh hg⟩

def EqERel (w : World) (n : Nat) (i : Value) (wr : World) : Prop := ∃ j : Nat, j ≤ n ∧ i = .int .i64 j ∧ w.grownBy wr none

def ToERel (w : World) (l : List Ev) (M : List Value) (i : Value) (wr : World) : Prop :=
  ∃ j : Nat, j ≤ l.length ∧ i = .int .i64 (j : Nat) ∧ w.grownBy wr none ∧ wr.ownsRow w.heap.size 41 5 (.slice (some ⟨w.heap.size, 0, none⟩) l.length l.length) l.length (evsV (l.take j) ++ M.drop (j * 5))
def ToEPost (w : World) (l : List Ev) (e : Ending) (w' : World) : Prop :=
  e = .returned (.slice (some ⟨w.heap.size, 0, none⟩) l.length l.length) ∧ w.grownBy w' none ∧ EvAt w' (some ⟨w.heap.size, 0, none⟩) l

end Go.Proofs.Ytklbnpnngfoecaa
