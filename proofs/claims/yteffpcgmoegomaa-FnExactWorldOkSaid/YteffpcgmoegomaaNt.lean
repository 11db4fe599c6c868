/- Notes: rows of notes as owned memory: opened, counted, copied, compared. -/
import Derived.Test.YteffpcgmoegomaaBr
import Derived.Deep.RegionHeld3
import Derived.Deep.Slices
import Derived.Laws.IdiomStrings
import Derived.Lib.AppendZeros
import Derived.Laws.AppendOwnNone
import Derived.Deep.AppendLies
namespace Go.Proofs.Yteffpcgmoegomaa
open Go.RowKit Go.ChangeShapes Go.WideShapes

/-- A note in memory: its three numbers, and where its ranges lie. -/
structure Nt where
  k : Int
  f : Int
  n : Int
  a : Option Addr
  c : Nat
  l : List Rg
/-- What a note says. -/
structure No where
  k : Int
  f : Int
  n : Int
  l : List Rg
def Nt.o (x : Nt) : No := ⟨x.k, x.f, x.n, x.l⟩
def NtC (w : World) (b o : Nat) (p : Nt) : Prop := w.cell? ⟨b, o, none⟩ = some (.int .i64 p.k) ∧ w.cell? ⟨b, o + 1, none⟩ = some (.int .i64 p.f) ∧ w.cell? ⟨b, o + 2, none⟩ = some (.int .i64 p.n) ∧ w.cell? ⟨b, o + 3, none⟩ = some (.slice p.a p.l.length p.c)
def NtAt (w : World) (a : Option Addr) (t : List Nt) : Prop :=
  t = [] ∨ ∃ b off, a = some ⟨b, off, none⟩ ∧ b < w.heap.size ∧ ∀ i (h : i < t.length), NtC w b (off + i * 4) t[i] ∧ RgAt w (t[i]).a (t[i]).l
theorem NtC.kept {w w' : World} {b o : Nat} {p : Nt} (h : NtC w b o p) (hg : w.grownBy w' none) : NtC w' b o p :=
  ⟨hg.cell h.1 (by simp), hg.cell h.2.1 (by simp), hg.cell h.2.2.1 (by simp), hg.cell h.2.2.2 (by simp)⟩
theorem NtAt.kept {w w' : World} {a : Option Addr} {t : List Nt} (h : NtAt w a t) (hg : w.grownBy w' none) : NtAt w' a t := by
  rcases h with h | ⟨b, off, ha, hb, hc⟩
  · exact .inl h
  · exact .inr ⟨b, off, ha, Nat.lt_of_lt_of_le hb hg.size, fun i hi => ⟨(hc i hi).1.kept hg, (hc i hi).2.kept hg⟩⟩
theorem o_len {t u : List Nt} (h : t.map Nt.o = u.map Nt.o) : t.length = u.length := by simpa using congrArg List.length h
theorem o_get {t u : List Nt} (h : t.map Nt.o = u.map Nt.o) (i : Nat) (ht : i < t.length) (hu : i < u.length) : (t[i]).o = (u[i]).o := by
  have e : (t.map Nt.o)[i]? = (u.map Nt.o)[i]? := by rw [h]
  simpa [ht, hu] using e

section
variable {H : Type} {enc : TypeId × Value → H} {P : Program} {w : World} {base : Nat} {spare : Nat → Bool} {held : Bool}
theorem open_fours {t e : TypeId} {f0 f1 f2 f3 : Field} {fuel : Nat} {cs : List Value} {x : DataW H × List MemPlace} (ht : P.underlying t = some (.slice e)) (he : P.underlying e = some (.struct #[f0, f1, f2, f3])) (ce : P.cellsOf e = 4)
    (oo : f0.offset = 0 ∧ f1.offset = 1 ∧ f2.offset = 2 ∧ f3.offset = 3) (cc : P.cellsOf f0.type = 1 ∧ P.cellsOf f1.type = 1 ∧ P.cellsOf f2.type = 1 ∧ P.cellsOf f3.type = 1)
    (h : DataW.trod enc P w base spare held fuel t cs = some x) :
    cs = [.slice none 0 0] ∨ ∃ (a : Addr) (len cap n : Nat), cs = [.slice (some a) len cap] ∧ len ≤ cap ∧ cap ≤ maxLen ∧
      ∀ i, i < len → ∃ (v0 v1 v2 v3 : Value) (y0 y1 y2 y3 : DataW H × List MemPlace), w.cell? (a.add (i * 4)) = some v0 ∧ w.cell? (a.add (i * 4 + 1)) = some v1 ∧ w.cell? (a.add (i * 4 + 2)) = some v2 ∧ w.cell? (a.add (i * 4 + 3)) = some v3 ∧ DataW.trod enc P w base spare held n f0.type [v0] = some y0 ∧ DataW.trod enc P w base spare held n f1.type [v1] = some y1 ∧ DataW.trod enc P w base spare held n f2.type [v2] = some y2 ∧ DataW.trod enc P w base spare held n f3.type [v3] = some y3 := by
  rcases Deep.open_slice ht h with ⟨h0, _⟩ | ⟨a, len, cap, m, n, D, Pl, rfl, hb, hl, hm, hmm, rfl, hx⟩
  · exact Or.inl h0
  right
  refine ⟨a, len, cap, n - 1, rfl, hl, hm, fun i hi => ?_⟩
  have him : i < m := by rw [hmm]; split <;> omega
  obtain ⟨cs', h1, h2⟩ := hx i him
  rw [ce] at h1
  obtain ⟨_, hlen, hcell⟩ := World.cells?_some h1
  obtain ⟨xs, k, hk, hxy, _, hxl, hf⟩ := DataW.trod_struct he h2
  have hk' : k = n - 1 := by omega
  subst hk'
  obtain ⟨o0, o1, o2, o3⟩ := oo
  obtain ⟨c0, c1, c2, c3⟩ := cc
  match xs, hxl, cs', hlen with
  | [y0, y1, y2, y3], _, [v0, v1, v2, v3], _ =>
    have g0 := hf 0 f0 rfl
    have g1 := hf 1 f1 rfl
    have g2 := hf 2 f2 rfl
    have g3 := hf 3 f3 rfl
    simp [o0, o1, o2, o3, c0, c1, c2, c3] at g0 g1 g2 g3
    have e0 := hcell 0 (by omega)
    have e1 := hcell 1 (by omega)
    have e2 := hcell 2 (by omega)
    have e3 := hcell 3 (by omega)
    rw [Deep.add_add] at e0 e1 e2 e3
    exact ⟨v0, v1, v2, v3, y0, y1, y2, y3, by simpa using e0, by simpa using e1, by simpa using e2, by simpa using e3, g0, g1, g2, g3⟩
end

def NtX (W : World) (x : Addr) (i : Nat) (p : Nt) : Prop := W.cell? (x.add (i * 4)) = some (.int .i64 p.k) ∧ W.cell? (x.add (i * 4 + 1)) = some (.int .i64 p.f) ∧ W.cell? (x.add (i * 4 + 2)) = some (.int .i64 p.n) ∧ W.cell? (x.add (i * 4 + 3)) = some (.slice p.a p.l.length p.c) ∧ RgAt W p.a p.l
theorem ntAt_of {w : World} {x : Addr} {l : List Nt} (h : ∀ i (hi : i < l.length), NtX w x i l[i]) : NtAt w (some x) l := by
  obtain ⟨b, off, spot⟩ := x
  by_cases h0 : l.length = 0
  · exact .inl (List.length_eq_zero_iff.mp h0)
  · have c0 := (h 0 (by omega)).1
    have hs : spot = none := by simpa [Addr.add] using World.cell?_spot c0
    subst hs
    have hb : b < w.heap.size := by
      have := World.block_lt_of_cell? w _ c0
      simpa [Addr.add] using this
    refine .inr ⟨b, off, rfl, hb, fun i hi => ?_⟩
    obtain ⟨e0, e1, e2, e3, hr⟩ := h i hi
    rw [add_none] at e0 e1 e2 e3
    exact ⟨⟨e0, e1, e2, e3⟩, hr⟩

def ntL (p : Nt) : List Value := [.int .i64 p.k, .int .i64 p.f, .int .i64 p.n, .slice p.a p.l.length p.c]
def ntsV (l : List Nt) : List Value := l.flatMap ntL
theorem ntsV_len : ∀ l : List Nt, (ntsV l).length = l.length * 4
  | [] => rfl
  | p :: l => by
    have := ntsV_len l
    simp only [ntsV, List.flatMap_cons, List.length_append, List.length_cons] at this ⊢
    rw [this]
    simp [ntL]
    omega
theorem ntsV_get : ∀ (l : List Nt) (i : Nat) (h : i < l.length), (ntsV l)[i * 4]? = some (.int .i64 (l[i]).k) ∧ (ntsV l)[i * 4 + 1]? = some (.int .i64 (l[i]).f) ∧ (ntsV l)[i * 4 + 2]? = some (.int .i64 (l[i]).n) ∧ (ntsV l)[i * 4 + 3]? = some (.slice (l[i]).a (l[i]).l.length (l[i]).c)
  | p :: l, 0, _ => by simp [ntsV, ntL]
  | p :: l, i + 1, h => by
    have a := ntsV_get l i (by simpa using h)
    have e : ntsV (p :: l) = .int .i64 p.k :: .int .i64 p.f :: .int .i64 p.n :: .slice p.a p.l.length p.c :: ntsV l := rfl
    rw [e, show (i + 1) * 4 = i * 4 + 1 + 1 + 1 + 1 from by omega]
    simpa using a
theorem nts_set (us : List Nt) (u : Nt) (M : List Value) (j N : Nat) (hj : us.length = j) (h : j < N) (hM : M.length = N * 4) :
    (((((ntsV us ++ M.drop (j * 4)).set (j * 4) (.int .i64 u.k)).set (j * 4 + 1) (.int .i64 u.f)).set (j * 4 + 2) (.int .i64 u.n)).set (j * 4 + 3) (.slice u.a u.l.length u.c)) = ntsV (us ++ [u]) ++ M.drop ((j + 1) * 4) := by
  have e1 : M.drop (j * 4) = M[j * 4] :: M[j * 4 + 1] :: M[j * 4 + 2] :: M[j * 4 + 3] :: M.drop ((j + 1) * 4) := by
    rw [List.drop_eq_getElem_cons (by omega), List.drop_eq_getElem_cons (by omega), List.drop_eq_getElem_cons (by omega), List.drop_eq_getElem_cons (by omega)]
    rw [show (j + 1) * 4 = j * 4 + 1 + 1 + 1 + 1 from by omega]
  have e2 : (ntsV us).length = j * 4 := by rw [ntsV_len, hj]
  have e3 : ntsV (us ++ [u]) = ntsV us ++ ntL u := by simp [ntsV]
  rw [e1, e3, List.set_append_right _ _ (by omega), List.set_append_right _ _ (by omega), List.set_append_right _ _ (by omega), List.set_append_right _ _ (by omega), e2]
  simp [ntL]
theorem ntAt_own {w : World} {base : Nat} {e : TypeId} {g n c : Nat} {l : List Nt} (h : w.ownsRow base e 4 (.slice (some ⟨g, 0, none⟩) n c) n (ntsV l)) (hn : n = l.length) (hr : ∀ u ∈ l, RgAt w u.a u.l) : NtAt w (some ⟨g, 0, none⟩) l := by
  subst hn
  refine .inr ⟨g, 0, rfl, (h.lt g rfl).2, fun i hi => ⟨?_, hr _ (List.getElem_mem hi)⟩⟩
  have hg := ntsV_get l i hi
  unfold NtC
  rw [Nat.zero_add, h.cellAt (i * 4) (by omega), h.cellAt (i * 4 + 1) (by omega), h.cellAt (i * 4 + 2) (by omega), h.cellAt (i * 4 + 3) (by omega)]
  exact hg

theorem infoNt : (Try.prog.info? 67).map (fun i => (i.zero, i.size, i.bytes)) = some (some (.agg #[.int .i64 0, .int .i64 0, .int .i64 0, .slice none 0 0]), 4, 48) := by kernel_rfl

set_option maxRecDepth 100000 in
theorem sz_rangesG (a : Option Addr) (c : Nat) (l : List Rg) (k : Int) (w : World) (hl : (l.length : Int) ≤ 9223372036854775807) (h0 : 0 ≤ k) (h1 : k ≤ 1048576) : Calls Try.prog 20 #[.slice a l.length c, .int .i64 k] w fun e w' => e = .returned (.int .i64 (if (l.length : Int) ≤ k then k - (l.length : Int) else -1)) ∧ w = w' := by
  by_cases h : (l.length : Int) ≤ k
  · rw [if_pos h]
    go_enter Try.func20, Try.ntmps20
    go_wp2
    go_ret
    exact ⟨rfl, rfl⟩
  · rw [if_neg h]
    go_enter Try.func20, Try.ntmps20
    go_wp2
    go_ret
    exact ⟨rfl, rfl⟩

set_option maxRecDepth 100000 in
theorem sz_note (k f n : Int) (a : Option Addr) (c : Nat) (l : List Rg) (q : Int) (w : World) (hl : (l.length : Int) ≤ 9223372036854775807) (h0 : 0 ≤ q) (h1 : q ≤ 1048576) : Calls Try.prog 49 #[.agg #[.int .i64 k, .int .i64 f, .int .i64 n, .slice a l.length c], .int .i64 q] w fun e w' => e = .returned (.int .i64 (if (l.length : Int) ≤ q then q - (l.length : Int) else -1)) ∧ w.grownBy w' none := by
  by_cases h : (l.length : Int) ≤ q
  · go_enter Try.func49, Try.ntmps49
    go_wp2_with fail
    refine (sz_rangesG _ _ _ _ _ hl h0 h1).mono ?_
    rintro e w1 ⟨rfl, rfl⟩
    rw [if_pos h]
    go_wp2_with fail
    go_ret
    exact ⟨rfl, World.grownBy_alloc _ _ _⟩
  · go_enter Try.func49, Try.ntmps49
    go_wp2_with fail
    refine (sz_rangesG _ _ _ _ _ hl h0 h1).mono ?_
    rintro e w1 ⟨rfl, rfl⟩
    rw [if_neg (by omega)]
    go_wp2_with fail
    go_ret
    exact ⟨rfl, World.grownBy_alloc _ _ _⟩

def SzNRel (w : World) (t : List Nt) (left i : Value) (wr : World) : Prop := ∃ (j : Nat) (q : Int), j ≤ t.length ∧ i = .int .i64 j ∧ left = .int .i64 q ∧ 0 ≤ q ∧ q ≤ 1048576 ∧ (∀ x ∈ t.take j, x.l.length ≤ 1048576) ∧ w.grownBy wr none
def SzNPost (w : World) (t : List Nt) (e : Ending) (w' : World) : Prop := (∃ r : Int, e = .returned (.int .i64 r) ∧ (0 ≤ r → t.length ≤ 1048576 ∧ ∀ x ∈ t, x.l.length ≤ 1048576)) ∧ w.grownBy w' none

set_option maxRecDepth 100000 in
set_option maxHeartbeats 1000000 in
theorem sz_notes (ao : Option Addr) (c : Nat) (t : List Nt) (w : World) (h : NtAt w ao t) (ht : t.length ≤ maxLen) (hm : ∀ x ∈ t, x.l.length ≤ maxLen) : Calls Try.prog 21 #[.slice ao t.length c, .int .i64 1048576] w (SzNPost w t) := by
  unfold maxLen at ht hm
  have H := Lib.hid (And.intro h hm)
  clear h hm
  by_cases h1 : (t.length : Int) ≤ 1048576
  · go_enter Try.func21, Try.ntmps21
    go_wp2_with fail
    go_loopw [1, 5] (fun left i wr => SzNRel w t left i wr) (fun _ i _ => t.length - (intOf i).toNat)
    case atStart => exact ⟨0, _, Nat.zero_le _, rfl, rfl, by omega, by omega, by simp, World.grownBy.refl _ _⟩
    case round =>
      obtain ⟨j, q, hj, rfl, rfl, q0, q1, hx, hg⟩ := hrel
      have HS := Lib.hid (And.intro hx hg)
      clear hx hg
      by_cases hlt : j < t.length
      · rcases (H.out.1.kept HS.out.2) with h0 | ⟨b, off, rfl, hb, hc⟩
        · rw [h0] at hlt
          simp at hlt
        · obtain ⟨⟨c0, c1, c2, c3⟩, _⟩ := hc j hlt
          have hlm := H.out.2 _ (List.getElem_mem hlt)
          have HL := Lib.hid (fun (h : (t[j]).l.length ≤ 1048576) => all_next t j hlt HS.out.1 h)
          clear hc
          generalize t[j] = x at *
          obtain ⟨xk, xf, xn, xa, xc, xl⟩ := x
          dsimp only at c0 c1 c2 c3 hlm
          have hlt' : (j : Int) < (t.length : Int) := by omega
          by_cases hq : (xl.length : Int) ≤ q
          · go_wp2_with fail
            refine (sz_note xk xf xn xa xc xl q _ (by omega) q0 q1).mono ?_
            rintro e w9 ⟨rfl, hg⟩
            rw [if_pos hq]
            have HW := Lib.hid (grownBy_trans HS.out.2 hg)
            have hq2 : ¬ q - (xl.length : Int) < 0 := by omega
            clear hg c0 c1 c2 c3
            go_wp2_with fail
            go_roundw
            case rel => exact ⟨j + 1, _, hlt, by go_num, rfl, by omega, by omega, HL.out (by first | omega | (dsimp only; omega)), HW.out⟩
            case measure => simp [intOf]; omega
          · go_wp2_with fail
            refine (sz_note xk xf xn xa xc xl q _ (by omega) q0 q1).mono ?_
            rintro e w9 ⟨rfl, hg⟩
            rw [if_neg (by omega)]
            have HW := Lib.hid (grownBy_trans HS.out.2 hg)
            clear hg c0 c1 c2 c3
            go_wp2_with fail
            go_ret
            exact ⟨⟨_, rfl, fun h => absurd h (by omega)⟩, HW.out⟩
      · obtain rfl : j = t.length := by omega
        go_wp2_with fail
        go_ret
        exact ⟨⟨_, rfl, fun _ => ⟨by omega, fun x hx => HS.out.1 x (by rw [List.take_length]; exact hx)⟩⟩, HS.out.2⟩
  · go_enter Try.func21, Try.ntmps21
    go_wp2_with fail
    go_ret
    exact ⟨⟨_, rfl, fun h => absurd h (by omega)⟩, World.grownBy.refl _ _⟩

def nB (q : Nat) (x0 x1 x2 x3 : Value) : List (Addr × Value) := [(⟨q, 0, none⟩, x0), (⟨q, 1, none⟩, x1), (⟨q, 2, none⟩, x2), (⟨q, 3, none⟩, x3)]
theorem rg_set {w : World} {a : Option Addr} {l : List Rg} {B o q : Nat} {v : Value} (h : RgAt w a l) (ha : a = some ⟨q, 0, none⟩) (hne : B ≠ q) : RgAt (w.setCell ⟨B, o, none⟩ v) a l := by
  rcases h with h | ⟨b, off, hb, hlt, hc⟩
  · exact .inl h
  · rw [ha] at hb
    simp only [Option.some.injEq, Addr.mk.injEq, and_true] at hb
    obtain ⟨rfl, rfl⟩ := hb
    have hg := grownBy_set w B o v
    exact .inr ⟨q, 0, ha, Nat.lt_of_lt_of_le hlt hg.size, fun i hi => ⟨hg.cell (hc i hi).1 (by simp; omega), hg.cell (hc i hi).2 (by simp; omega)⟩⟩
def ToN1Post (w : World) (k f n : Int) (l : List Rg) (e : Ending) (w' : World) : Prop :=
  ∃ q : Nat, e = .returned (.agg #[.int .i64 k, .int .i64 f, .int .i64 n, .slice (some ⟨q, 0, none⟩) l.length l.length]) ∧ w.heap.size ≤ q ∧ w.grownBy w' none ∧ RgAt w' (some ⟨q, 0, none⟩) l

theorem frz_keep {a b : World} (hg : a.grownBy b none) {p : Addr} {v : Value} (h : a.cell? p = some v) (hf : a.frozen? p = false) : b.frozen? p = false := by
  rw [hg.frozen_far p (cell_in h) (by simp)]
  exact hf
theorem set_new {w W : World} (h : w.grownBy W none) {b : Nat} (hb : w.heap.size ≤ b) (i : Nat) (v : Value) : w.grownBy (W.setCell ⟨b, i, none⟩ v) none := grownBy_new h (grownBy_set W b i v) hb

set_option maxRecDepth 100000 in
set_option maxHeartbeats 1000000 in
theorem to_note (k f n : Int) (a : Option Addr) (c : Nat) (l : List Rg) (w : World) (h : RgAt w a l) (hl : l.length ≤ 1048576) : Calls Try.prog 53 #[.agg #[.int .i64 k, .int .i64 f, .int .i64 n, .slice a l.length c]] w (ToN1Post w k f n l) := by
  obtain ⟨W3, hW⟩ : ∃ W3, W3 = (((w.alloc (.cells #[.int .i64 k, .int .i64 f, .int .i64 n, .slice a l.length c] 85)).alloc (.cells #[.int .i64 0, .int .i64 0, .int .i64 0, .slice none 0 0] 67)).alloc (.cells #[.int .i64 k, .int .i64 f, .int .i64 n, .slice none 0 0] 67)) := ⟨_, rfl⟩
  have hz : W3.heap.size = w.heap.size + 1 + 1 + 1 := by rw [hW, alloc_size, alloc_size, alloc_size]
  have hgr : w.grownBy W3 none := by rw [hW]; exact grownBy_trans (World.grownBy_alloc _ _ _) (grownBy_trans (World.grownBy_alloc _ _ _) (World.grownBy_alloc _ _ _))
  have r0 : W3.cell? ⟨w.heap.size + 1, 0, none⟩ = some (.int .i64 0) := by rw [hW]; go_simp
  have s0 : W3.frozen? ⟨w.heap.size + 1, 0, none⟩ = false := by rw [hW]; go_simp
  have r1 : W3.cell? ⟨w.heap.size + 1, 1, none⟩ = some (.int .i64 0) := by rw [hW]; go_simp
  have s1 : W3.frozen? ⟨w.heap.size + 1, 1, none⟩ = false := by rw [hW]; go_simp
  have r2 : W3.cell? ⟨w.heap.size + 1, 2, none⟩ = some (.int .i64 0) := by rw [hW]; go_simp
  have s2 : W3.frozen? ⟨w.heap.size + 1, 2, none⟩ = false := by rw [hW]; go_simp
  have r3 : W3.cell? ⟨w.heap.size + 1, 3, none⟩ = some (.slice none 0 0) := by rw [hW]; go_simp
  have s3 : W3.frozen? ⟨w.heap.size + 1, 3, none⟩ = false := by rw [hW]; go_simp
  have o0 : W3.cell? ⟨w.heap.size + 1 + 1, 0, none⟩ = some (.int .i64 k) := by rw [hW]; go_simp
  have p0 : W3.frozen? ⟨w.heap.size + 1 + 1, 0, none⟩ = false := by rw [hW]; go_simp
  have o1 : W3.cell? ⟨w.heap.size + 1 + 1, 1, none⟩ = some (.int .i64 f) := by rw [hW]; go_simp
  have p1 : W3.frozen? ⟨w.heap.size + 1 + 1, 1, none⟩ = false := by rw [hW]; go_simp
  have o2 : W3.cell? ⟨w.heap.size + 1 + 1, 2, none⟩ = some (.int .i64 n) := by rw [hW]; go_simp
  have p2 : W3.frozen? ⟨w.heap.size + 1 + 1, 2, none⟩ = false := by rw [hW]; go_simp
  have o3 : W3.cell? ⟨w.heap.size + 1 + 1, 3, none⟩ = some (.slice none 0 0) := by rw [hW]; go_simp
  have p3 : W3.frozen? ⟨w.heap.size + 1 + 1, 3, none⟩ = false := by rw [hW]; go_simp
  have H := Lib.hid (And.intro (h.kept hgr) (And.intro hgr hW))
  have HZ := Lib.hid hz
  have HR := Lib.hid (And.intro r0 (And.intro r1 (And.intro r2 (And.intro r3 (And.intro s0 (And.intro s1 (And.intro s2 s3)))))))
  have HO := Lib.hid (And.intro o0 (And.intro o1 (And.intro o2 (And.intro o3 (And.intro p0 (And.intro p1 (And.intro p2 p3)))))))
  clear h hgr hW hz r0 r1 r2 r3 s0 s1 s2 s3 o0 o1 o2 o3 p0 p1 p2 p3
  go_enter Try.func53, Try.ntmps53
  go_wp2_with fail
  rw [← H.out.2.2]
  refine (to_ranges _ _ _ _ H.out.1 hl).mono ?_
  rintro e w4 ⟨rfl, hg, hr⟩
  rw [HZ.out] at hr ⊢
  have hra := rg_own hr
  obtain ⟨r0, r1, r2, r3, s0, s1, s2, s3⟩ := HR.out
  obtain ⟨o0, o1, o2, o3, p0, p1, p2, p3⟩ := HO.out
  have s0 := frz_keep hg r0 s0
  have r0 := hg.cell r0 (by simp)
  have p0 := frz_keep hg o0 p0
  have o0 := hg.cell o0 (by simp)
  have s1 := frz_keep hg r1 s1
  have r1 := hg.cell r1 (by simp)
  have p1 := frz_keep hg o1 p1
  have o1 := hg.cell o1 (by simp)
  have s2 := frz_keep hg r2 s2
  have r2 := hg.cell r2 (by simp)
  have p2 := frz_keep hg o2 p2
  have o2 := hg.cell o2 (by simp)
  have s3 := frz_keep hg r3 s3
  have r3 := hg.cell r3 (by simp)
  have p3 := frz_keep hg o3 p3
  have o3 := hg.cell o3 (by simp)
  have HG := Lib.hid (And.intro (grownBy_trans H.out.2.1 hg) hra)
  clear hg hr hra
  go_wp2_with fail
  refine bodyPost_ret (v := .agg #[.int .i64 k, .int .i64 f, .int .i64 n, .slice (some ⟨w.heap.size + 1 + 1 + 1, 0, none⟩) l.length l.length]) ?_ rfl ⟨_, rfl, ?_, ?_, ?_⟩
  · simp [results, Try.results53, go_sem, r0, r1, r2, r3]
  · omega
  · repeat (first | with_reducible refine set_new ?_ (by first | omega | (simp; omega)) _ _ | with_reducible exact HG.out.1)
  · repeat (first | with_reducible refine rg_set ?_ rfl (by omega) | with_reducible exact HG.out.2)

def ToNRel (w : World) (t : List Nt) (M : List Value) (i : Value) (wr : World) : Prop :=
  ∃ (j : Nat) (us : List Nt), j ≤ t.length ∧ us.length = j ∧ us.map Nt.o = (t.take j).map Nt.o ∧ i = .int .i64 (j : Nat) ∧ w.grownBy wr none ∧ (∀ u ∈ us, ∃ q, u.a = some ⟨q, 0, none⟩ ∧ w.heap.size < q ∧ RgAt wr u.a u.l) ∧ wr.ownsRow w.heap.size 67 4 (.slice (some ⟨w.heap.size, 0, none⟩) t.length t.length) t.length (ntsV us ++ M.drop (j * 4))
def ToNPost (w : World) (t : List Nt) (e : Ending) (w' : World) : Prop :=
  ∃ us : List Nt, us.length = t.length ∧ us.map Nt.o = t.map Nt.o ∧ e = .returned (.slice (some ⟨w.heap.size, 0, none⟩) t.length t.length) ∧ w.grownBy w' none ∧ NtAt w' (some ⟨w.heap.size, 0, none⟩) us
theorem o_next {t us : List Nt} {j : Nat} {u : Nt} (h : us.map Nt.o = (t.take j).map Nt.o) (hj : j < t.length) (hu : u.o = (t[j]).o) : (us ++ [u]).map Nt.o = (t.take (j + 1)).map Nt.o := by
  rw [List.take_succ_eq_append_getElem hj, List.map_append, List.map_append, h]
  simp [hu]

set_option maxRecDepth 100000 in
set_option maxHeartbeats 2000000 in
theorem to_notes (ao : Option Addr) (c : Nat) (t : List Nt) (w : World) (h : NtAt w ao t) (ht : t.length ≤ 1048576) (hm : ∀ x ∈ t, x.l.length ≤ 1048576) : Calls Try.prog 34 #[.slice ao t.length c] w (ToNPost w t) := by
  obtain ⟨i0, hi, hz0, hz1, hz2⟩ := info_of infoNt
  have H := Lib.hid (And.intro h hm)
  clear h hm
  go_enter Try.func34, Try.ntmps34
  go_wp2_with (at_make; refine wpList_make_full _ rfl _ _ 38 rfl w.heap.size 67 i0 _ 4 Try.underlying38 hi hz0 hz1 _ _ _ _ t.length rfl rfl rfl rfl ?c1 ?c2 ?c3 ?_)
  case c1 => rw [hz2]; omega
  case c2 => unfold maxLen; omega
  case c3 => exact Nat.le_refl _
  intro w1 hown hg
  have HS := Lib.hid (And.intro hown hg)
  clear hown hg
  go_wp2_with fail
  go_loopw [4] (fun i wr => ToNRel w t (madeCells #[.int .i64 0, .int .i64 0, .int .i64 0, .slice none 0 0] (t.length * 4)).toList i wr) (fun i _ => t.length - (intOf i).toNat)
  case atStart => exact ⟨0, [], Nat.zero_le _, rfl, by simp, rfl, HS.out.2, by simp, by simpa [ntsV] using HS.out.1⟩
  case round =>
    obtain ⟨j, us, hj, hul, huo, rfl, hg, hur, hown⟩ := hrel
    have HR := Lib.hid (And.intro hg (And.intro hown (And.intro hul (And.intro huo hur))))
    clear hg hown hul huo hur
    by_cases hlt : j < t.length
    · rcases (H.out.1.kept HR.out.1) with h0 | ⟨b, off, rfl, hb, hc⟩
      · rw [h0] at hlt
        simp at hlt
      · obtain ⟨⟨c0, c1, c2, c3⟩, hrg⟩ := hc j hlt
        have hlm := H.out.2 _ (List.getElem_mem hlt)
        clear hc
        have HX := Lib.hid (fun (u : Nt) (hu : u.o = (t[j]).o) => o_next HR.out.2.2.2.1 hlt hu)
        generalize t[j] = y at *
        obtain ⟨k, f, n, a, yc, l⟩ := y
        dsimp only at c0 c1 c2 c3 hrg hlm
        have HRG := Lib.hid hrg
        clear hrg
        have hlt' : (j : Int) < (t.length : Int) := by omega
        go_wp2_with fail
        refine (to_note k f n a yc l _ HRG.out hlm).mono ?_
        rintro e w8 ⟨q, rfl, hq, hg, hrq⟩
        have hq2 : w.heap.size < q := Nat.lt_of_lt_of_le (HR.out.2.1.lt _ rfl).2 hq
        have ho0 := HR.out.2.1.kept hg (by simp [Value.ownBlock])
        have hl2 : (ntsV us ++ (madeCells #[.int .i64 0, .int .i64 0, .int .i64 0, .slice none 0 0] (t.length * 4)).toList.drop (j * 4)).length = t.length * 4 := ho0.1
        obtain ⟨y00, d00⟩ : ∃ y, w8.cell? ⟨w.heap.size, j * 4, none⟩ = some y := by
          rw [ho0.cellAt (j * 4) (by omega)]
          exact ⟨_, List.getElem?_eq_getElem (by first | (rw [hl2]; omega) | (simp only [List.length_set]; rw [hl2]; omega))⟩
        have f00 := ho0.frozenAt (j * 4)
        obtain ⟨y01, d01⟩ : ∃ y, w8.cell? ⟨w.heap.size, j * 4 + 1, none⟩ = some y := by
          rw [ho0.cellAt (j * 4 + 1) (by omega)]
          exact ⟨_, List.getElem?_eq_getElem (by first | (rw [hl2]; omega) | (simp only [List.length_set]; rw [hl2]; omega))⟩
        have f01 := ho0.frozenAt (j * 4 + 1)
        obtain ⟨y02, d02⟩ : ∃ y, w8.cell? ⟨w.heap.size, j * 4 + 2, none⟩ = some y := by
          rw [ho0.cellAt (j * 4 + 2) (by omega)]
          exact ⟨_, List.getElem?_eq_getElem (by first | (rw [hl2]; omega) | (simp only [List.length_set]; rw [hl2]; omega))⟩
        have f02 := ho0.frozenAt (j * 4 + 2)
        obtain ⟨y03, d03⟩ : ∃ y, w8.cell? ⟨w.heap.size, j * 4 + 3, none⟩ = some y := by
          rw [ho0.cellAt (j * 4 + 3) (by omega)]
          exact ⟨_, List.getElem?_eq_getElem (by first | (rw [hl2]; omega) | (simp only [List.length_set]; rw [hl2]; omega))⟩
        have f03 := ho0.frozenAt (j * 4 + 3)
        have hs1 := ho0.stored (j * 4) (.int .i64 k)
        have ho1 := hs1.1
        obtain ⟨y11, d11⟩ : ∃ y, (w8.setCell ⟨w.heap.size, j * 4, none⟩ (.int .i64 k)).cell? ⟨w.heap.size, j * 4 + 1, none⟩ = some y := by
          rw [ho1.cellAt (j * 4 + 1) (by omega)]
          exact ⟨_, List.getElem?_eq_getElem (by first | (rw [hl2]; omega) | (simp only [List.length_set]; rw [hl2]; omega))⟩
        have f11 := ho1.frozenAt (j * 4 + 1)
        obtain ⟨y12, d12⟩ : ∃ y, (w8.setCell ⟨w.heap.size, j * 4, none⟩ (.int .i64 k)).cell? ⟨w.heap.size, j * 4 + 2, none⟩ = some y := by
          rw [ho1.cellAt (j * 4 + 2) (by omega)]
          exact ⟨_, List.getElem?_eq_getElem (by first | (rw [hl2]; omega) | (simp only [List.length_set]; rw [hl2]; omega))⟩
        have f12 := ho1.frozenAt (j * 4 + 2)
        obtain ⟨y13, d13⟩ : ∃ y, (w8.setCell ⟨w.heap.size, j * 4, none⟩ (.int .i64 k)).cell? ⟨w.heap.size, j * 4 + 3, none⟩ = some y := by
          rw [ho1.cellAt (j * 4 + 3) (by omega)]
          exact ⟨_, List.getElem?_eq_getElem (by first | (rw [hl2]; omega) | (simp only [List.length_set]; rw [hl2]; omega))⟩
        have f13 := ho1.frozenAt (j * 4 + 3)
        have hs2 := ho1.stored (j * 4 + 1) (.int .i64 f)
        have ho2 := hs2.1
        obtain ⟨y22, d22⟩ : ∃ y, ((w8.setCell ⟨w.heap.size, j * 4, none⟩ (.int .i64 k)).setCell ⟨w.heap.size, j * 4 + 1, none⟩ (.int .i64 f)).cell? ⟨w.heap.size, j * 4 + 2, none⟩ = some y := by
          rw [ho2.cellAt (j * 4 + 2) (by omega)]
          exact ⟨_, List.getElem?_eq_getElem (by first | (rw [hl2]; omega) | (simp only [List.length_set]; rw [hl2]; omega))⟩
        have f22 := ho2.frozenAt (j * 4 + 2)
        obtain ⟨y23, d23⟩ : ∃ y, ((w8.setCell ⟨w.heap.size, j * 4, none⟩ (.int .i64 k)).setCell ⟨w.heap.size, j * 4 + 1, none⟩ (.int .i64 f)).cell? ⟨w.heap.size, j * 4 + 3, none⟩ = some y := by
          rw [ho2.cellAt (j * 4 + 3) (by omega)]
          exact ⟨_, List.getElem?_eq_getElem (by first | (rw [hl2]; omega) | (simp only [List.length_set]; rw [hl2]; omega))⟩
        have f23 := ho2.frozenAt (j * 4 + 3)
        have hs3 := ho2.stored (j * 4 + 2) (.int .i64 n)
        have ho3 := hs3.1
        obtain ⟨y33, d33⟩ : ∃ y, (((w8.setCell ⟨w.heap.size, j * 4, none⟩ (.int .i64 k)).setCell ⟨w.heap.size, j * 4 + 1, none⟩ (.int .i64 f)).setCell ⟨w.heap.size, j * 4 + 2, none⟩ (.int .i64 n)).cell? ⟨w.heap.size, j * 4 + 3, none⟩ = some y := by
          rw [ho3.cellAt (j * 4 + 3) (by omega)]
          exact ⟨_, List.getElem?_eq_getElem (by first | (rw [hl2]; omega) | (simp only [List.length_set]; rw [hl2]; omega))⟩
        have f33 := ho3.frozenAt (j * 4 + 3)
        have hs4 := ho3.stored (j * 4 + 3) (.slice (some ⟨q, 0, none⟩) l.length l.length)
        have ho4 := hs4.1
        have hne := nts_set us ⟨k, f, n, some ⟨q, 0, none⟩, l.length, l⟩ (madeCells #[.int .i64 0, .int .i64 0, .int .i64 0, .slice none 0 0] (t.length * 4)).toList j t.length HR.out.2.2.1 hlt (by simp [size_madeCells])
        dsimp only at hne
        rw [hne] at ho4
        have hst := grownBy_trans (grownBy_trans (grownBy_trans hs1.2 hs2.2) hs3.2) hs4.2
        have hmem : ∀ u ∈ us ++ [(⟨k, f, n, some ⟨q, 0, none⟩, l.length, l⟩ : Nt)], ∃ g, u.a = some ⟨g, 0, none⟩ ∧ w.heap.size < g ∧ RgAt ((((w8.setCell ⟨w.heap.size, j * 4, none⟩ (.int .i64 k)).setCell ⟨w.heap.size, j * 4 + 1, none⟩ (.int .i64 f)).setCell ⟨w.heap.size, j * 4 + 2, none⟩ (.int .i64 n)).setCell ⟨w.heap.size, j * 4 + 3, none⟩ (.slice (some ⟨q, 0, none⟩) l.length l.length)) u.a u.l := by
          intro u hu
          have hx : ∃ g, u.a = some ⟨g, 0, none⟩ ∧ w.heap.size < g ∧ RgAt w8 u.a u.l := by
            rcases List.mem_append.1 hu with hu | hu
            · obtain ⟨g, g1, g2, g3⟩ := HR.out.2.2.2.2 u hu
              exact ⟨g, g1, g2, g3.kept hg⟩
            · obtain rfl := List.mem_singleton.1 hu
              exact ⟨q, rfl, hq2, hrq⟩
          obtain ⟨g, g1, g2, g3⟩ := hx
          exact ⟨g, g1, g2, rg_set (rg_set (rg_set (rg_set g3 g1 (by omega)) g1 (by omega)) g1 (by omega)) g1 (by omega)⟩
        have HW := Lib.hid (And.intro ho4 (And.intro (grownBy_new (grownBy_trans HR.out.1 hg) hst (Nat.le_refl _)) (And.intro hmem (HX.out ⟨k, f, n, some ⟨q, 0, none⟩, l.length, l⟩ rfl))))
        have HU := Lib.hid (show (us ++ [(⟨k, f, n, some ⟨q, 0, none⟩, l.length, l⟩ : Nt)]).length = j + 1 by rw [List.length_append, HR.out.2.2.1]; rfl)
        clear hg c0 c1 c2 c3 ho0 ho1 ho2 ho3 ho4 hl2 hs1 hs2 hs3 hs4 hne hst hmem hrq
        go_wp2_with fail
        go_roundw
        case rel => exact ⟨j + 1, _, hlt, HU.out, HW.out.2.2.2, by go_num, HW.out.2.1, HW.out.2.2.1, HW.out.1⟩
        case measure => simp [intOf]; omega
    · obtain rfl : j = t.length := by omega
      have hown := HR.out.2.1
      rw [List.drop_eq_nil_of_le (by simp [size_madeCells]), List.append_nil] at hown
      have hn := ntAt_own hown HR.out.2.2.1.symm (fun u hu => by obtain ⟨g, _, _, h⟩ := HR.out.2.2.2.2 u hu; exact h)
      have HW := Lib.hid (And.intro hn (show us.map Nt.o = t.map Nt.o by have h := HR.out.2.2.2.1; rw [List.take_length] at h; exact h))
      clear hown hn
      go_wp2_with fail
      go_ret
      exact ⟨us, HR.out.2.2.1, HW.out.2, rfl, HR.out.1, HW.out.1⟩

end Go.Proofs.Yteffpcgmoegomaa
