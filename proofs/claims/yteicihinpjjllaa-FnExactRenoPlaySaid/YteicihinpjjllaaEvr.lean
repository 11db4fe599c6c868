/- Windows: rows of events as owned memory: opened, copied, compared. -/
import Derived.Test.YteicihinpjjllaaRpS
import Derived.Test.YteicihinpjjllaaDraw
import Derived.Deep.RegionHeld3
import Derived.Deep.Slices
import Derived.Laws.IdiomStrings
import Derived.Lib.AppendZeros
import Derived.Laws.AppendOwnNone
import Derived.Deep.AppendLies
namespace Go.Proofs.Yteicihinpjjllaa
open Go.RowKit Go.ChangeShapes Go.WideShapes

section
variable {H : Type} {enc : TypeId × Value → H} {P : Program} {w : World} {base : Nat} {spare : Nat → Bool} {held : Bool}
theorem open_fives {t e : TypeId} {f0 f1 f2 f3 f4 : Field} {fuel : Nat} {cs : List Value} {x : DataW H × List MemPlace} (ht : P.underlying t = some (.slice e)) (he : P.underlying e = some (.struct #[f0, f1, f2, f3, f4])) (ce : P.cellsOf e = 5)
    (oo : f0.offset = 0 ∧ f1.offset = 1 ∧ f2.offset = 2 ∧ f3.offset = 3 ∧ f4.offset = 4) (cc : P.cellsOf f0.type = 1 ∧ P.cellsOf f1.type = 1 ∧ P.cellsOf f2.type = 1 ∧ P.cellsOf f3.type = 1 ∧ P.cellsOf f4.type = 1)
    (h : DataW.trod enc P w base spare held fuel t cs = some x) :
    cs = [.slice none 0 0] ∨ ∃ (a : Addr) (len cap n : Nat), cs = [.slice (some a) len cap] ∧ len ≤ cap ∧ cap ≤ maxLen ∧
      ∀ i, i < len → ∃ (v0 v1 v2 v3 v4 : Value) (y0 y1 y2 y3 y4 : DataW H × List MemPlace), w.cell? (a.add (i * 5)) = some v0 ∧ w.cell? (a.add (i * 5 + 1)) = some v1 ∧ w.cell? (a.add (i * 5 + 2)) = some v2 ∧ w.cell? (a.add (i * 5 + 3)) = some v3 ∧ w.cell? (a.add (i * 5 + 4)) = some v4 ∧ DataW.trod enc P w base spare held n f0.type [v0] = some y0 ∧ DataW.trod enc P w base spare held n f1.type [v1] = some y1 ∧ DataW.trod enc P w base spare held n f2.type [v2] = some y2 ∧ DataW.trod enc P w base spare held n f3.type [v3] = some y3 ∧ DataW.trod enc P w base spare held n f4.type [v4] = some y4 := by
  rcases Deep.open_slice ht h with ⟨h0, _⟩ | ⟨a, len, cap, m, n, D, Pl, rfl, hb, hl, hm, hmm, rfl, hx⟩
  · exact Or.inl h0
  right
  refine ⟨a, len, cap, n - 1, rfl, hl, hm, fun i hi => ?_⟩
  have him : i < m := by rw [hmm]; split <;> omega
  obtain ⟨cs', h1, h2⟩ := hx i him
  rw [ce] at h1
  obtain ⟨_, hlen, hcell⟩ := World.cells?_some h1
  obtain ⟨xs, k, hk, hxy, _, hxl, hf⟩ := DataW.trod_struct he h2
  have hk' : k = n - 1 := by omega
  subst hk'
  obtain ⟨o0, o1, o2, o3, o4⟩ := oo
  obtain ⟨c0, c1, c2, c3, c4⟩ := cc
  match xs, hxl, cs', hlen with
  | [y0, y1, y2, y3, y4], _, [v0, v1, v2, v3, v4], _ =>
    have g0 := hf 0 f0 rfl
    have g1 := hf 1 f1 rfl
    have g2 := hf 2 f2 rfl
    have g3 := hf 3 f3 rfl
    have g4 := hf 4 f4 rfl
    simp [o0, o1, o2, o3, o4, c0, c1, c2, c3, c4] at g0 g1 g2 g3 g4
    have e0 := hcell 0 (by omega)
    have e1 := hcell 1 (by omega)
    have e2 := hcell 2 (by omega)
    have e3 := hcell 3 (by omega)
    have e4 := hcell 4 (by omega)
    rw [Deep.add_add] at e0 e1 e2 e3 e4
    exact ⟨v0, v1, v2, v3, v4, y0, y1, y2, y3, y4, by simpa using e0, by simpa using e1, by simpa using e2, by simpa using e3, by simpa using e4, g0, g1, g2, g3, g4⟩
end

theorem list_of5 {α : Type} {P : Nat → α → Prop} : ∀ (n : Nat) (_ : ∀ i, i < n → ∃ a, P i a), ∃ l : List α, l.length = n ∧ ∀ i (hi : i < l.length), P i l[i]
  | 0, _ => ⟨[], rfl, fun i hi => by simp at hi⟩
  | n + 1, h => by
    obtain ⟨l, hl, hp⟩ := list_of5 n (fun i hi => h i (by omega))
    obtain ⟨a, ha⟩ := h n (by omega)
    refine ⟨l ++ [a], by simp [hl], fun i hi => ?_⟩
    by_cases hc : i < l.length
    · rw [List.getElem_append_left hc]
      exact hp i hc
    · have : i = n := by simp at hi; omega
      subst this
      rw [List.getElem_append_right (by omega)]
      simpa [hl] using ha

def EvX (W : World) (x : Addr) (i : Nat) (p : Ev) : Prop := W.cell? (x.add (i * 5)) = some (.int .i64 p.k) ∧ W.cell? (x.add (i * 5 + 1)) = some (.int .i64 p.n) ∧ W.cell? (x.add (i * 5 + 2)) = some (.int .i64 p.a) ∧ W.cell? (x.add (i * 5 + 3)) = some (.int .i64 p.f) ∧ W.cell? (x.add (i * 5 + 4)) = some (.int .i64 p.x)
theorem add_at (b off j : Nat) : (⟨b, off, none⟩ : Addr).add j = ⟨b, off + j, none⟩ := by
  by_cases e : j = 0
  · subst e; simp [Addr.add]
  · simp [Addr.add, e]
theorem evAt_of {w : World} {x : Addr} {l : List Ev} (h : ∀ i (hi : i < l.length), EvX w x i l[i]) : EvAt w (some x) l := by
  obtain ⟨b, off, spot⟩ := x
  by_cases h0 : l.length = 0
  · exact .inl (List.length_eq_zero_iff.mp h0)
  · have c0 := (h 0 (by omega)).1
    have hs : spot = none := by simpa [Addr.add] using World.cell?_spot c0
    subst hs
    have hb : b < w.heap.size := by
      have := World.block_lt_of_cell? w _ c0
      simpa [Addr.add] using this
    refine .inr ⟨b, off, rfl, hb, fun i hi => ?_⟩
    obtain ⟨e0, e1, e2, e3, e4⟩ := h i hi
    rw [add_at] at e0 e1 e2 e3 e4
    exact ⟨e0, e1, e2, e3, e4⟩

def evL (p : Ev) : List Value := [.int .i64 p.k, .int .i64 p.n, .int .i64 p.a, .int .i64 p.f, .int .i64 p.x]
def evsV (l : List Ev) : List Value := l.flatMap evL
theorem evsV_len : ∀ l : List Ev, (evsV l).length = l.length * 5
  | [] => rfl
  | p :: l => by
    have := evsV_len l
    simp only [evsV, List.flatMap_cons, List.length_append, List.length_cons] at this ⊢
    rw [this]
    simp [evL]
    omega
theorem evsV_get : ∀ (l : List Ev) (i : Nat) (h : i < l.length), (evsV l)[i * 5]? = some (.int .i64 (l[i]).k) ∧ (evsV l)[i * 5 + 1]? = some (.int .i64 (l[i]).n) ∧ (evsV l)[i * 5 + 2]? = some (.int .i64 (l[i]).a) ∧ (evsV l)[i * 5 + 3]? = some (.int .i64 (l[i]).f) ∧ (evsV l)[i * 5 + 4]? = some (.int .i64 (l[i]).x)
  | p :: l, 0, _ => by simp [evsV, evL]
  | p :: l, i + 1, h => by
    have a := evsV_get l i (by simpa using h)
    have e : evsV (p :: l) = .int .i64 p.k :: .int .i64 p.n :: .int .i64 p.a :: .int .i64 p.f :: .int .i64 p.x :: evsV l := rfl
    rw [e, show (i + 1) * 5 = i * 5 + 1 + 1 + 1 + 1 + 1 from by omega]
    simpa using a
theorem evs_set (l : List Ev) (M : List Value) (j : Nat) (h : j < l.length) (hM : M.length = l.length * 5) :
    ((((((evsV (l.take j) ++ M.drop (j * 5)).set (j * 5) (.int .i64 (l[j]).k)).set (j * 5 + 1) (.int .i64 (l[j]).n)).set (j * 5 + 2) (.int .i64 (l[j]).a)).set (j * 5 + 3) (.int .i64 (l[j]).f)).set (j * 5 + 4) (.int .i64 (l[j]).x)) = evsV (l.take (j + 1)) ++ M.drop ((j + 1) * 5) := by
  have e1 : M.drop (j * 5) = M[j * 5] :: M[j * 5 + 1] :: M[j * 5 + 2] :: M[j * 5 + 3] :: M[j * 5 + 4] :: M.drop ((j + 1) * 5) := by
    rw [List.drop_eq_getElem_cons (by omega), List.drop_eq_getElem_cons (by omega), List.drop_eq_getElem_cons (by omega), List.drop_eq_getElem_cons (by omega), List.drop_eq_getElem_cons (by omega)]
    rw [show (j + 1) * 5 = j * 5 + 1 + 1 + 1 + 1 + 1 from by omega]
  have e2 : (evsV (l.take j)).length = j * 5 := by rw [evsV_len, List.length_take]; omega
  have e3 : evsV (l.take (j + 1)) = evsV (l.take j) ++ evL l[j] := by
    rw [List.take_succ_eq_append_getElem h, evsV, List.flatMap_append]
    simp [evsV]
  rw [e1, e3, List.set_append_right _ _ (by omega), List.set_append_right _ _ (by omega), List.set_append_right _ _ (by omega), List.set_append_right _ _ (by omega), List.set_append_right _ _ (by omega), e2]
  simp [evL]
theorem evAt_own {w : World} {base : Nat} {e : TypeId} {g n c : Nat} {l : List Ev} (h : w.ownsRow base e 5 (.slice (some ⟨g, 0, none⟩) n c) n (evsV l)) (hn : n = l.length) : EvAt w (some ⟨g, 0, none⟩) l := by
  subst hn
  refine .inr ⟨g, 0, rfl, (h.lt g rfl).2, fun i hi => ?_⟩
  have hg := evsV_get l i hi
  rw [Nat.zero_add, h.cellAt (i * 5) (by omega), h.cellAt (i * 5 + 1) (by omega), h.cellAt (i * 5 + 2) (by omega), h.cellAt (i * 5 + 3) (by omega), h.cellAt (i * 5 + 4) (by omega)]
  exact hg

theorem infoEv : (Try.prog.info? 27).map (fun i => (i.zero, i.size, i.bytes)) = some (some (.agg #[.int .i64 0, .int .i64 0, .int .i64 0, .int .i64 0, .int .i64 0]), 5, 40) := by kernel_rfl
theorem info_of5 {T : TypeId} {z : Value} {s b : Nat} (h : (Try.prog.info? T).map (fun i => (i.zero, i.size, i.bytes)) = some (some z, s, b)) : ∃ i, Try.prog.info? T = some i ∧ i.zero = some z ∧ i.size = s ∧ i.bytes = b := by
  cases hi : Try.prog.info? T with
  | none => rw [hi] at h; cases h
  | some i =>
    rw [hi] at h
    simp at h
    exact ⟨i, rfl, h.1, h.2.1, h.2.2⟩

theorem e10 {w u v : World} {k n a f x : Int} {b1 b2 off1 off2 j : Nat} (h : u.cell? ⟨b1, off1 + j * 5, none⟩ = some (.int .i64 k) ∧ u.cell? ⟨b1, off1 + j * 5 + 1, none⟩ = some (.int .i64 n) ∧ u.cell? ⟨b1, off1 + j * 5 + 2, none⟩ = some (.int .i64 a) ∧ u.cell? ⟨b1, off1 + j * 5 + 3, none⟩ = some (.int .i64 f) ∧ u.cell? ⟨b1, off1 + j * 5 + 4, none⟩ = some (.int .i64 x) ∧ u.cell? ⟨b2, off2 + j * 5, none⟩ = some (.int .i64 k) ∧ u.cell? ⟨b2, off2 + j * 5 + 1, none⟩ = some (.int .i64 n) ∧ u.cell? ⟨b2, off2 + j * 5 + 2, none⟩ = some (.int .i64 a) ∧ u.cell? ⟨b2, off2 + j * 5 + 3, none⟩ = some (.int .i64 f) ∧ u.cell? ⟨b2, off2 + j * 5 + 4, none⟩ = some (.int .i64 x) ∧ w.grownBy u none) (hg : u.grownBy v none) : v.cell? ⟨b1, off1 + j * 5, none⟩ = some (.int .i64 k) ∧ v.cell? ⟨b1, off1 + j * 5 + 1, none⟩ = some (.int .i64 n) ∧ v.cell? ⟨b1, off1 + j * 5 + 2, none⟩ = some (.int .i64 a) ∧ v.cell? ⟨b1, off1 + j * 5 + 3, none⟩ = some (.int .i64 f) ∧ v.cell? ⟨b1, off1 + j * 5 + 4, none⟩ = some (.int .i64 x) ∧ v.cell? ⟨b2, off2 + j * 5, none⟩ = some (.int .i64 k) ∧ v.cell? ⟨b2, off2 + j * 5 + 1, none⟩ = some (.int .i64 n) ∧ v.cell? ⟨b2, off2 + j * 5 + 2, none⟩ = some (.int .i64 a) ∧ v.cell? ⟨b2, off2 + j * 5 + 3, none⟩ = some (.int .i64 f) ∧ v.cell? ⟨b2, off2 + j * 5 + 4, none⟩ = some (.int .i64 x) ∧ w.grownBy v none := by
  obtain ⟨h0, h1, h2, h3, h4, h5, h6, h7, h8, h9, hh⟩ := h
  exact ⟨hg.cell h0 (by simp), hg.cell h1 (by simp), hg.cell h2 (by simp), hg.cell h3 (by simp), hg.cell h4 (by simp), hg.cell h5 (by simp), hg.cell h6 (by simp), hg.cell h7 (by simp), hg.cell h8 (by simp), hg.cell h9 (by simp), grownBy_trans hh hg⟩

def EqERel (w : World) (n : Nat) (i : Value) (wr : World) : Prop := ∃ j : Nat, j ≤ n ∧ i = .int .i64 j ∧ w.grownBy wr none

set_option maxRecDepth 100000 in
set_option maxHeartbeats 2000000 in
theorem eq_events (ao bo : Option Addr) (c d : Nat) (l : List Ev) (w : World) (h : EvAt w ao l) (k : EvAt w bo l) (hl : l.length ≤ 1048576) : Calls Try.prog 30 #[.slice ao l.length c, .slice bo l.length d] w fun e w' => e = .returned (.bool true) ∧ w.grownBy w' none := by
  have H := Lib.hid (And.intro h k)
  clear h k
  go_enter Try.func30, Try.ntmps30
  go_wp2_with fail
  go_loopw [5] (fun i wr => EqERel w l.length i wr) (fun i _ => l.length - (intOf i).toNat)
  case atStart => exact ⟨0, Nat.zero_le _, rfl, World.grownBy.refl _ _⟩
  case round =>
    obtain ⟨j, hj, rfl, hg⟩ := hrel
    have HS := Lib.hid hg
    clear hg
    by_cases hlt : j < l.length
    · rcases (H.out.1.kept HS.out) with h0 | ⟨b1, off1, rfl, hb1, hc⟩
      · rw [h0] at hlt
        simp at hlt
      · rcases (H.out.2.kept HS.out) with h0 | ⟨b2, off2, rfl, hb2, hd⟩
        · rw [h0] at hlt
          simp at hlt
        · have hcj := hc j hlt
          have hdj := hd j hlt
          clear hc hd
          generalize l[j] = y at *
          obtain ⟨k, n, a, f, x⟩ := y
          dsimp only at hcj hdj
          obtain ⟨c0, c1, c2, c3, c4⟩ := hcj
          obtain ⟨d0, d1, d2, d3, d4⟩ := hdj
          have hlt' : (j : Int) < (l.length : Int) := by omega
          have hj0 : (0 : Int) ≤ (j : Int) := by omega
          have z0 := grownBy_trans HS.out (grownBy_drew (r := none))
          go_wp2_with fail
          go_region_held3 (fun w' => w'.cell? ⟨b1, off1 + j * 5, none⟩ = some (.int .i64 k) ∧ w'.cell? ⟨b1, off1 + j * 5 + 1, none⟩ = some (.int .i64 n) ∧ w'.cell? ⟨b1, off1 + j * 5 + 2, none⟩ = some (.int .i64 a) ∧ w'.cell? ⟨b1, off1 + j * 5 + 3, none⟩ = some (.int .i64 f) ∧ w'.cell? ⟨b1, off1 + j * 5 + 4, none⟩ = some (.int .i64 x) ∧ w'.cell? ⟨b2, off2 + j * 5, none⟩ = some (.int .i64 k) ∧ w'.cell? ⟨b2, off2 + j * 5 + 1, none⟩ = some (.int .i64 n) ∧ w'.cell? ⟨b2, off2 + j * 5 + 2, none⟩ = some (.int .i64 a) ∧ w'.cell? ⟨b2, off2 + j * 5 + 3, none⟩ = some (.int .i64 f) ∧ w'.cell? ⟨b2, off2 + j * 5 + 4, none⟩ = some (.int .i64 x) ∧ w.grownBy w' none) ((first | assumption | exact ⟨c0, c1, c2, c3, c4, d0, d1, d2, d3, d4, z0⟩ | exact e10 (by assumption) grownBy_drew))
            (first
              | (go_at_call 46; refine (ev_eq k n a f x _).mono ?_; rintro e w9 ⟨rfl, hg⟩; have qb := e10 (by first | assumption | exact ⟨c0, c1, c2, c3, c4, d0, d1, d2, d3, d4, z0⟩) hg; have z9 := qb.2.2.2.2.2.2.2.2.2.2)
              | (fail))
          have HZ := Lib.hid (by assumption : w.grownBy w9 none)
          go_wp2_with fail
          go_roundw
          case rel => exact ⟨j + 1, hlt, by go_num, HZ.out⟩
          case measure => simp [intOf]; omega
    · obtain rfl : j = l.length := by omega
      go_wp2_with fail
      go_ret
      exact ⟨rfl, HS.out⟩

def ToERel (w : World) (l : List Ev) (M : List Value) (i : Value) (wr : World) : Prop :=
  ∃ j : Nat, j ≤ l.length ∧ i = .int .i64 (j : Nat) ∧ w.grownBy wr none ∧ wr.ownsRow w.heap.size 27 5 (.slice (some ⟨w.heap.size, 0, none⟩) l.length l.length) l.length (evsV (l.take j) ++ M.drop (j * 5))
def ToEPost (w : World) (l : List Ev) (e : Ending) (w' : World) : Prop :=
  e = .returned (.slice (some ⟨w.heap.size, 0, none⟩) l.length l.length) ∧ w.grownBy w' none ∧ EvAt w' (some ⟨w.heap.size, 0, none⟩) l

set_option maxRecDepth 100000 in
set_option maxHeartbeats 2000000 in
theorem to_events (ao : Option Addr) (c : Nat) (l : List Ev) (w : World) (h : EvAt w ao l) (hl : l.length ≤ 1048576) : Calls Try.prog 29 #[.slice ao l.length c] w (ToEPost w l) := by
  obtain ⟨i0, hi, hz0, hz1, hz2⟩ := info_of5 infoEv
  have H := Lib.hid h
  clear h
  go_enter Try.func29, Try.ntmps29
  go_wp2_with (at_make; refine wpList_make_full _ rfl _ _ 34 rfl w.heap.size 27 i0 _ 5 Try.underlying34 hi hz0 hz1 _ _ _ _ l.length rfl rfl rfl rfl ?c1 ?c2 ?c3 ?_)
  case c1 => rw [hz2]; omega
  case c2 => unfold maxLen; omega
  case c3 => exact Nat.le_refl _
  intro w1 hown hg
  have HS := Lib.hid (And.intro hown hg)
  clear hown hg
  go_wp2_with fail
  go_loopw [4] (fun i wr => ToERel w l (madeCells #[.int .i64 0, .int .i64 0, .int .i64 0, .int .i64 0, .int .i64 0] (l.length * 5)).toList i wr) (fun i _ => l.length - (intOf i).toNat)
  case atStart => exact ⟨0, Nat.zero_le _, rfl, HS.out.2, by simpa [evsV] using HS.out.1⟩
  case round =>
    obtain ⟨j, hj, rfl, hg, hown⟩ := hrel
    have HR := Lib.hid (And.intro hg hown)
    clear hg hown
    by_cases hlt : j < l.length
    · rcases (H.out.kept HR.out.1) with h0 | ⟨b, off, rfl, hb, hc⟩
      · rw [h0] at hlt
        simp at hlt
      · have hcj := hc j hlt
        clear hc
        have HN := Lib.hid (evs_set l _ j hlt (by simp [size_madeCells] : (madeCells #[.int .i64 0, .int .i64 0, .int .i64 0, .int .i64 0, .int .i64 0] (l.length * 5)).toList.length = l.length * 5))
        generalize l[j] = y at *
        obtain ⟨k, n, a, f, x⟩ := y
        dsimp only at hcj
        obtain ⟨c0, c1, c2, c3, c4⟩ := hcj
        have hlt' : (j : Int) < (l.length : Int) := by omega
        go_wp2_with fail
        refine (ev_to k n a f x _).mono ?_
        rintro e w8 ⟨rfl, hg⟩
        have ho0 := HR.out.2.kept hg (by simp [Value.ownBlock])
        have hl2 : (evsV (l.take j) ++ (madeCells #[.int .i64 0, .int .i64 0, .int .i64 0, .int .i64 0, .int .i64 0] (l.length * 5)).toList.drop (j * 5)).length = l.length * 5 := ho0.1
        obtain ⟨y00, d00⟩ : ∃ y, w8.cell? ⟨w.heap.size, j * 5, none⟩ = some y := by
          rw [ho0.cellAt (j * 5) (by omega)]
          exact ⟨_, List.getElem?_eq_getElem (by first | (rw [hl2]; omega) | (simp only [List.length_set]; rw [hl2]; omega))⟩
        have f00 := ho0.frozenAt (j * 5)
        obtain ⟨y01, d01⟩ : ∃ y, w8.cell? ⟨w.heap.size, j * 5 + 1, none⟩ = some y := by
          rw [ho0.cellAt (j * 5 + 1) (by omega)]
          exact ⟨_, List.getElem?_eq_getElem (by first | (rw [hl2]; omega) | (simp only [List.length_set]; rw [hl2]; omega))⟩
        have f01 := ho0.frozenAt (j * 5 + 1)
        obtain ⟨y02, d02⟩ : ∃ y, w8.cell? ⟨w.heap.size, j * 5 + 2, none⟩ = some y := by
          rw [ho0.cellAt (j * 5 + 2) (by omega)]
          exact ⟨_, List.getElem?_eq_getElem (by first | (rw [hl2]; omega) | (simp only [List.length_set]; rw [hl2]; omega))⟩
        have f02 := ho0.frozenAt (j * 5 + 2)
        obtain ⟨y03, d03⟩ : ∃ y, w8.cell? ⟨w.heap.size, j * 5 + 3, none⟩ = some y := by
          rw [ho0.cellAt (j * 5 + 3) (by omega)]
          exact ⟨_, List.getElem?_eq_getElem (by first | (rw [hl2]; omega) | (simp only [List.length_set]; rw [hl2]; omega))⟩
        have f03 := ho0.frozenAt (j * 5 + 3)
        obtain ⟨y04, d04⟩ : ∃ y, w8.cell? ⟨w.heap.size, j * 5 + 4, none⟩ = some y := by
          rw [ho0.cellAt (j * 5 + 4) (by omega)]
          exact ⟨_, List.getElem?_eq_getElem (by first | (rw [hl2]; omega) | (simp only [List.length_set]; rw [hl2]; omega))⟩
        have f04 := ho0.frozenAt (j * 5 + 4)
        have hs1 := ho0.stored (j * 5) (.int .i64 k)
        have ho1 := hs1.1
        obtain ⟨y11, d11⟩ : ∃ y, (w8.setCell ⟨w.heap.size, j * 5, none⟩ (.int .i64 k)).cell? ⟨w.heap.size, j * 5 + 1, none⟩ = some y := by
          rw [ho1.cellAt (j * 5 + 1) (by omega)]
          exact ⟨_, List.getElem?_eq_getElem (by first | (rw [hl2]; omega) | (simp only [List.length_set]; rw [hl2]; omega))⟩
        have f11 := ho1.frozenAt (j * 5 + 1)
        obtain ⟨y12, d12⟩ : ∃ y, (w8.setCell ⟨w.heap.size, j * 5, none⟩ (.int .i64 k)).cell? ⟨w.heap.size, j * 5 + 2, none⟩ = some y := by
          rw [ho1.cellAt (j * 5 + 2) (by omega)]
          exact ⟨_, List.getElem?_eq_getElem (by first | (rw [hl2]; omega) | (simp only [List.length_set]; rw [hl2]; omega))⟩
        have f12 := ho1.frozenAt (j * 5 + 2)
        obtain ⟨y13, d13⟩ : ∃ y, (w8.setCell ⟨w.heap.size, j * 5, none⟩ (.int .i64 k)).cell? ⟨w.heap.size, j * 5 + 3, none⟩ = some y := by
          rw [ho1.cellAt (j * 5 + 3) (by omega)]
          exact ⟨_, List.getElem?_eq_getElem (by first | (rw [hl2]; omega) | (simp only [List.length_set]; rw [hl2]; omega))⟩
        have f13 := ho1.frozenAt (j * 5 + 3)
        obtain ⟨y14, d14⟩ : ∃ y, (w8.setCell ⟨w.heap.size, j * 5, none⟩ (.int .i64 k)).cell? ⟨w.heap.size, j * 5 + 4, none⟩ = some y := by
          rw [ho1.cellAt (j * 5 + 4) (by omega)]
          exact ⟨_, List.getElem?_eq_getElem (by first | (rw [hl2]; omega) | (simp only [List.length_set]; rw [hl2]; omega))⟩
        have f14 := ho1.frozenAt (j * 5 + 4)
        have hs2 := ho1.stored (j * 5 + 1) (.int .i64 n)
        have ho2 := hs2.1
        obtain ⟨y22, d22⟩ : ∃ y, ((w8.setCell ⟨w.heap.size, j * 5, none⟩ (.int .i64 k)).setCell ⟨w.heap.size, j * 5 + 1, none⟩ (.int .i64 n)).cell? ⟨w.heap.size, j * 5 + 2, none⟩ = some y := by
          rw [ho2.cellAt (j * 5 + 2) (by omega)]
          exact ⟨_, List.getElem?_eq_getElem (by first | (rw [hl2]; omega) | (simp only [List.length_set]; rw [hl2]; omega))⟩
        have f22 := ho2.frozenAt (j * 5 + 2)
        obtain ⟨y23, d23⟩ : ∃ y, ((w8.setCell ⟨w.heap.size, j * 5, none⟩ (.int .i64 k)).setCell ⟨w.heap.size, j * 5 + 1, none⟩ (.int .i64 n)).cell? ⟨w.heap.size, j * 5 + 3, none⟩ = some y := by
          rw [ho2.cellAt (j * 5 + 3) (by omega)]
          exact ⟨_, List.getElem?_eq_getElem (by first | (rw [hl2]; omega) | (simp only [List.length_set]; rw [hl2]; omega))⟩
        have f23 := ho2.frozenAt (j * 5 + 3)
        obtain ⟨y24, d24⟩ : ∃ y, ((w8.setCell ⟨w.heap.size, j * 5, none⟩ (.int .i64 k)).setCell ⟨w.heap.size, j * 5 + 1, none⟩ (.int .i64 n)).cell? ⟨w.heap.size, j * 5 + 4, none⟩ = some y := by
          rw [ho2.cellAt (j * 5 + 4) (by omega)]
          exact ⟨_, List.getElem?_eq_getElem (by first | (rw [hl2]; omega) | (simp only [List.length_set]; rw [hl2]; omega))⟩
        have f24 := ho2.frozenAt (j * 5 + 4)
        have hs3 := ho2.stored (j * 5 + 2) (.int .i64 a)
        have ho3 := hs3.1
        obtain ⟨y33, d33⟩ : ∃ y, (((w8.setCell ⟨w.heap.size, j * 5, none⟩ (.int .i64 k)).setCell ⟨w.heap.size, j * 5 + 1, none⟩ (.int .i64 n)).setCell ⟨w.heap.size, j * 5 + 2, none⟩ (.int .i64 a)).cell? ⟨w.heap.size, j * 5 + 3, none⟩ = some y := by
          rw [ho3.cellAt (j * 5 + 3) (by omega)]
          exact ⟨_, List.getElem?_eq_getElem (by first | (rw [hl2]; omega) | (simp only [List.length_set]; rw [hl2]; omega))⟩
        have f33 := ho3.frozenAt (j * 5 + 3)
        obtain ⟨y34, d34⟩ : ∃ y, (((w8.setCell ⟨w.heap.size, j * 5, none⟩ (.int .i64 k)).setCell ⟨w.heap.size, j * 5 + 1, none⟩ (.int .i64 n)).setCell ⟨w.heap.size, j * 5 + 2, none⟩ (.int .i64 a)).cell? ⟨w.heap.size, j * 5 + 4, none⟩ = some y := by
          rw [ho3.cellAt (j * 5 + 4) (by omega)]
          exact ⟨_, List.getElem?_eq_getElem (by first | (rw [hl2]; omega) | (simp only [List.length_set]; rw [hl2]; omega))⟩
        have f34 := ho3.frozenAt (j * 5 + 4)
        have hs4 := ho3.stored (j * 5 + 3) (.int .i64 f)
        have ho4 := hs4.1
        obtain ⟨y44, d44⟩ : ∃ y, ((((w8.setCell ⟨w.heap.size, j * 5, none⟩ (.int .i64 k)).setCell ⟨w.heap.size, j * 5 + 1, none⟩ (.int .i64 n)).setCell ⟨w.heap.size, j * 5 + 2, none⟩ (.int .i64 a)).setCell ⟨w.heap.size, j * 5 + 3, none⟩ (.int .i64 f)).cell? ⟨w.heap.size, j * 5 + 4, none⟩ = some y := by
          rw [ho4.cellAt (j * 5 + 4) (by omega)]
          exact ⟨_, List.getElem?_eq_getElem (by first | (rw [hl2]; omega) | (simp only [List.length_set]; rw [hl2]; omega))⟩
        have f44 := ho4.frozenAt (j * 5 + 4)
        have hs5 := ho4.stored (j * 5 + 4) (.int .i64 x)
        have ho5 := hs5.1
        have hne := HN.out
        try dsimp only at hne
        rw [hne] at ho5
        have HW := Lib.hid (And.intro ho5 (grownBy_new (grownBy_trans HR.out.1 hg) (grownBy_trans (grownBy_trans (grownBy_trans (grownBy_trans hs1.2 hs2.2) hs3.2) hs4.2) hs5.2) (Nat.le_refl _)))
        clear hg c0 c1 c2 c3 c4 ho0 ho1 ho2 ho3 ho4 ho5 hl2 hs1 hs2 hs3 hs4 hs5 hne
        go_wp2_with fail
        go_roundw
        case rel => exact ⟨j + 1, hlt, by go_num, HW.out.2, HW.out.1⟩
        case measure => simp [intOf]; omega
    · obtain rfl : j = l.length := by omega
      have hown := HR.out.2
      rw [List.take_length, List.drop_eq_nil_of_le (by simp [size_madeCells]), List.append_nil] at hown
      have HW := Lib.hid hown
      clear hown
      go_wp2_with fail
      go_ret
      exact ⟨rfl, HR.out.1, evAt_own HW.out rfl⟩

end Go.Proofs.Yteicihinpjjllaa
