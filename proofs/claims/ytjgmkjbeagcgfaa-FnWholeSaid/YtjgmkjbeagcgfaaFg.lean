/- Rows of frags as owned memory: sizes, copies, whether two rows are the same, marks. -/
import Derived.Test.YtjgmkjbeagcgfaaPcMark
import Derived.Deep.RegionHeld3
import Derived.Deep.Slices
import Derived.Lib.AppendZeros
namespace Go.Proofs.Ytjgmkjbeagcgfaa
open Go.RowKit Go.ChangeShapes Go.WideShapes

structure Fg where
  f : Int
  m : Bool
  d : List UInt8
def FgAt (w : World) (a : Option Addr) (l : List Fg) : Prop :=
  l = [] ∨ ∃ b off, a = some ⟨b, off, none⟩ ∧ b < w.heap.size ∧ ∀ i (h : i < l.length), w.cell? ⟨b, off + i * 3, none⟩ = some (.int .i64 (l[i]).f) ∧ w.cell? ⟨b, off + i * 3 + 1, none⟩ = some (.bool (l[i]).m) ∧ w.cell? ⟨b, off + i * 3 + 2, none⟩ = some (.string ⟨(l[i]).d.toArray⟩)
theorem FgAt.kept {w w' : World} {a : Option Addr} {l : List Fg} (h : FgAt w a l) (hg : w.grownBy w' none) : FgAt w' a l := by
  rcases h with h | ⟨b, off, ha, hb, hc⟩
  · exact .inl h
  · refine .inr ⟨b, off, ha, Nat.lt_of_lt_of_le hb hg.size, fun i hi => ?_⟩
    obtain ⟨c0, c1, c2⟩ := hc i hi
    exact ⟨hg.cell c0 (by simp), hg.cell c1 (by simp), hg.cell c2 (by simp)⟩
def fgV (p : Fg) : List Value := [.int .i64 p.f, .bool p.m, .string ⟨p.d.toArray⟩]
def fgsV (l : List Fg) : List Value := l.flatMap fgV
theorem fgsV_len : ∀ l : List Fg, (fgsV l).length = l.length * 3
  | [] => rfl
  | p :: l => by
    have := fgsV_len l
    simp only [fgsV, List.flatMap_cons, List.length_append, List.length_cons] at this ⊢
    rw [this]
    simp [fgV]
    omega
theorem fgsV_get : ∀ (l : List Fg) (i : Nat) (h : i < l.length), (fgsV l)[i * 3]? = some (.int .i64 (l[i]).f) ∧ (fgsV l)[i * 3 + 1]? = some (.bool (l[i]).m) ∧ (fgsV l)[i * 3 + 2]? = some (.string ⟨(l[i]).d.toArray⟩)
  | p :: l, 0, _ => by simp [fgsV, fgV]
  | p :: l, i + 1, h => by
    have a := fgsV_get l i (by simpa using h)
    have e : fgsV (p :: l) = .int .i64 p.f :: .bool p.m :: .string ⟨p.d.toArray⟩ :: fgsV l := rfl
    rw [e, show (i + 1) * 3 = i * 3 + 1 + 1 + 1 from by omega]
    simpa using a
theorem fgs_set (l : List Fg) (M : List Value) (j : Nat) (h : j < l.length) (hM : M.length = l.length * 3) :
    ((((fgsV (l.take j) ++ M.drop (j * 3)).set (j * 3) (.int .i64 (l[j]).f)).set (j * 3 + 1) (.bool (l[j]).m)).set (j * 3 + 2) (.string ⟨(l[j]).d.toArray⟩)) = fgsV (l.take (j + 1)) ++ M.drop ((j + 1) * 3) := by
  have e1 : M.drop (j * 3) = M[j * 3] :: M[j * 3 + 1] :: M[j * 3 + 2] :: M.drop ((j + 1) * 3) := by
    rw [List.drop_eq_getElem_cons (by omega), List.drop_eq_getElem_cons (by omega), List.drop_eq_getElem_cons (by omega)]
    rw [show (j + 1) * 3 = j * 3 + 1 + 1 + 1 from by omega]
  have e2 : (fgsV (l.take j)).length = j * 3 := by rw [fgsV_len, List.length_take]; omega
  have e3 : fgsV (l.take (j + 1)) = fgsV (l.take j) ++ fgV l[j] := by
    rw [List.take_succ_eq_append_getElem h, fgsV, List.flatMap_append]
    simp [fgsV]
  rw [e1, e3, List.set_append_right _ _ (by omega), List.set_append_right _ _ (by omega), List.set_append_right _ _ (by omega), e2]
  simp [fgV]
theorem fgsV_snoc (l : List Fg) (x : Fg) : fgsV (l ++ [x]) = fgsV l ++ [.int .i64 x.f, .bool x.m, .string ⟨x.d.toArray⟩] := by simp [fgsV, fgV]
abbrev OwnFg (w : World) (base : Nat) (a : Option Addr) (c : Nat) (l : List Fg) : Prop := w.ownsRow base 26 3 (.slice a l.length c) l.length (fgsV l)
theorem fgAt_own {w : World} {base : Nat} {e : TypeId} {g n c : Nat} {l : List Fg} (h : w.ownsRow base e 3 (.slice (some ⟨g, 0, none⟩) n c) n (fgsV l)) (hn : n = l.length) : FgAt w (some ⟨g, 0, none⟩) l := by
  subst hn
  refine .inr ⟨g, 0, rfl, (h.lt g rfl).2, fun i hi => ?_⟩
  have hx := fgsV_get l i hi
  rw [Nat.zero_add, h.cellAt (i * 3) (by omega), h.cellAt (i * 3 + 1) (by omega), h.cellAt (i * 3 + 2) (by omega)]
  exact hx
theorem fg_own {w : World} {base : Nat} {e : TypeId} {ao : Option Addr} {c : Nat} {l : List Fg} (h : w.ownsRow base e 3 (.slice ao l.length c) l.length (fgsV l)) : FgAt w ao l := by
  rcases h.2 with ⟨_, h0⟩ | ⟨g, cap', cur, hv, _⟩
  · exact .inl (List.length_eq_zero_iff.mp h0)
  · simp at hv
    obtain ⟨rfl, rfl⟩ := hv
    exact fgAt_own h rfl
theorem fgAt_of {w : World} {x : Addr} {l : List Fg} (h : ∀ i (hi : i < l.length), w.cell? (x.add (i * 3)) = some (.int .i64 (l[i]).f) ∧ w.cell? (x.add (i * 3 + 1)) = some (.bool (l[i]).m) ∧ w.cell? (x.add (i * 3 + 2)) = some (.string ⟨(l[i]).d.toArray⟩)) : FgAt w (some x) l := by
  obtain ⟨b, off, spot⟩ := x
  by_cases h0 : l.length = 0
  · exact .inl (List.length_eq_zero_iff.mp h0)
  · have c0 := (h 0 (by omega)).1
    have hs : spot = none := by simpa [Addr.add] using World.cell?_spot c0
    subst hs
    have hb : b < w.heap.size := by
      have := World.block_lt_of_cell? w _ c0
      simpa [Addr.add] using this
    refine .inr ⟨b, off, rfl, hb, fun i hi => ?_⟩
    have hx := h i hi
    have e0 : (⟨b, off, none⟩ : Addr).add (i * 3) = ⟨b, off + i * 3, none⟩ := by
      by_cases e : i = 0
      · subst e; simp [Addr.add]
      · have e' : i * 3 ≠ 0 := by omega
        simp [Addr.add, e']
    have e1 : (⟨b, off, none⟩ : Addr).add (i * 3 + 1) = ⟨b, off + i * 3 + 1, none⟩ := by simp [Addr.add]; omega
    have e2 : (⟨b, off, none⟩ : Addr).add (i * 3 + 2) = ⟨b, off + i * 3 + 2, none⟩ := by simp [Addr.add]; omega
    rw [e0, e1, e2] at hx
    exact hx
theorem infoFg : (Try.prog.info? 26).map (fun i => (i.zero, i.size, i.bytes)) = some (some (.agg #[.int .i64 0, .bool false, .string ⟨#[]⟩]), 3, 32) := by kernel_rfl

section
variable {H : Type} {enc : TypeId × Value → H} {P : Program} {w : World} {base : Nat} {spare : Nat → Bool} {held : Bool}
theorem open_fgs {t e : TypeId} {f0 f1 f2 : Field} {fuel : Nat} {cs : List Value} {x : DataW H × List MemPlace} (ht : P.underlying t = some (.slice e)) (he : P.underlying e = some (.struct #[f0, f1, f2])) (ce : P.cellsOf e = 3)
    (oo : f0.offset = 0 ∧ f1.offset = 1 ∧ f2.offset = 2) (cc : P.cellsOf f0.type = 1 ∧ P.cellsOf f1.type = 1 ∧ P.cellsOf f2.type = 1)
    (h : DataW.trod enc P w base spare held fuel t cs = some x) :
    cs = [.slice none 0 0] ∨ ∃ (a : Addr) (len cap n : Nat), cs = [.slice (some a) len cap] ∧ len ≤ cap ∧ cap ≤ maxLen ∧
      ∀ i, i < len → ∃ (v0 v1 v2 : Value) (y0 y1 y2 : DataW H × List MemPlace), w.cell? (a.add (i * 3)) = some v0 ∧ w.cell? (a.add (i * 3 + 1)) = some v1 ∧ w.cell? (a.add (i * 3 + 2)) = some v2 ∧ DataW.trod enc P w base spare held n f0.type [v0] = some y0 ∧ DataW.trod enc P w base spare held n f1.type [v1] = some y1 ∧ DataW.trod enc P w base spare held n f2.type [v2] = some y2 := by
  rcases Deep.open_slice ht h with ⟨h0, _⟩ | ⟨a, len, cap, m, n, D, Pl, rfl, hb, hl, hm, hmm, rfl, hx⟩
  · exact Or.inl h0
  right
  refine ⟨a, len, cap, n - 1, rfl, hl, hm, fun i hi => ?_⟩
  have him : i < m := by rw [hmm]; split <;> omega
  obtain ⟨cs', h1, h2⟩ := hx i him
  rw [ce] at h1
  obtain ⟨_, hlen, hcell⟩ := World.cells?_some h1
  obtain ⟨xs, k, hk, hxy, _, hxl, hf⟩ := DataW.trod_struct he h2
  have hk' : k = n - 1 := by omega
  subst hk'
  obtain ⟨o0, o1, o2⟩ := oo
  obtain ⟨c0, c1, c2⟩ := cc
  match xs, hxl, cs', hlen with
  | [y0, y1, y2], _, [v0, v1, v2], _ =>
    have g0 := hf 0 f0 rfl
    have g1 := hf 1 f1 rfl
    have g2 := hf 2 f2 rfl
    simp [o0, o1, o2, c0, c1, c2] at g0 g1 g2
    have e0 := hcell 0 (by omega)
    have e1 := hcell 1 (by omega)
    have e2 := hcell 2 (by omega)
    rw [Deep.add_add] at e0 e1 e2
    exact ⟨v0, v1, v2, y0, y1, y2, by simpa using e0, by simpa using e1, by simpa using e2, g0, g1, g2⟩
end

set_option maxRecDepth 100000 in
theorem to_fg (f : Int) (m : Bool) (d : List UInt8) (w : World) : Calls Try.prog 11 #[.agg #[.int .i64 f, .bool m, .string ⟨d.toArray⟩]] w fun e w' => e = .returned (.agg #[.int .i64 f, .bool m, .string ⟨d.toArray⟩]) ∧ w.grownBy w' none := by
  go_enter Try.func11, Try.ntmps11
  go_wp2
  exact bodyPost_ret (v := .agg #[.int .i64 f, .bool m, .string ⟨d.toArray⟩]) (by simp [results, Try.results11, go_sem]) rfl ⟨rfl, grownBy_trans (World.grownBy_alloc _ _ _) (grownBy_trans (World.grownBy_alloc _ _ _) (World.grownBy_alloc _ _ _))⟩

set_option maxRecDepth 100000 in
theorem eq_fg (f : Int) (m : Bool) (d : List UInt8) (w : World) : Calls Try.prog 29 #[.agg #[.int .i64 f, .bool m, .string ⟨d.toArray⟩], .agg #[.int .i64 f, .bool m, .string ⟨d.toArray⟩]] w fun e w' => e = .returned (.bool true) ∧ w.grownBy w' none := by
  go_enter Try.func29, Try.ntmps29
  go_wp2
  go_ret
  exact ⟨rfl, grownBy_trans (World.grownBy_alloc _ _ _) (World.grownBy_alloc _ _ _)⟩

def EqFgRel (w : World) (n : Nat) (i : Value) (wr : World) : Prop := ∃ j : Nat, j ≤ n ∧ i = .int .i64 j ∧ w.grownBy wr none
theorem efg {w u v : World} {xf : Int} {xm : Bool} {xd : List UInt8} {b1 b2 off1 off2 j : Nat} (h : u.cell? ⟨b1, off1 + j * 3, none⟩ = some (.int .i64 xf) ∧ u.cell? ⟨b1, off1 + j * 3 + 1, none⟩ = some (.bool xm) ∧ u.cell? ⟨b1, off1 + j * 3 + 2, none⟩ = some (.string ⟨xd.toArray⟩) ∧ u.cell? ⟨b2, off2 + j * 3, none⟩ = some (.int .i64 xf) ∧ u.cell? ⟨b2, off2 + j * 3 + 1, none⟩ = some (.bool xm) ∧ u.cell? ⟨b2, off2 + j * 3 + 2, none⟩ = some (.string ⟨xd.toArray⟩) ∧ w.grownBy u none) (hg : u.grownBy v none) : v.cell? ⟨b1, off1 + j * 3, none⟩ = some (.int .i64 xf) ∧ v.cell? ⟨b1, off1 + j * 3 + 1, none⟩ = some (.bool xm) ∧ v.cell? ⟨b1, off1 + j * 3 + 2, none⟩ = some (.string ⟨xd.toArray⟩) ∧ v.cell? ⟨b2, off2 + j * 3, none⟩ = some (.int .i64 xf) ∧ v.cell? ⟨b2, off2 + j * 3 + 1, none⟩ = some (.bool xm) ∧ v.cell? ⟨b2, off2 + j * 3 + 2, none⟩ = some (.string ⟨xd.toArray⟩) ∧ w.grownBy v none := by
  obtain ⟨h0, h1, h2, h3, h4, h5, hh⟩ := h
  exact ⟨hg.cell h0 (by simp), hg.cell h1 (by simp), hg.cell h2 (by simp), hg.cell h3 (by simp), hg.cell h4 (by simp), hg.cell h5 (by simp), grownBy_trans hh hg⟩

set_option maxRecDepth 100000 in
set_option maxHeartbeats 1000000 in
theorem eq_fgs (a b : Option Addr) (c d : Nat) (l : List Fg) (w : World) (h : FgAt w a l) (k : FgAt w b l) (hl : l.length ≤ 1048576) : Calls Try.prog 15 #[.slice a l.length c, .slice b l.length d] w fun e w' => e = .returned (.bool true) ∧ w.grownBy w' none := by
  have H := Lib.hid (And.intro h k)
  clear h k
  go_enter Try.func15, Try.ntmps15
  go_wp2_with fail
  go_loopw [5] (fun i wr => EqFgRel w l.length i wr) (fun i _ => l.length - (intOf i).toNat)
  case atStart => exact ⟨0, Nat.zero_le _, rfl, World.grownBy.refl _ _⟩
  case round =>
    obtain ⟨j, hj, rfl, hg⟩ := hrel
    have HS := Lib.hid hg
    clear hg
    by_cases hlt : j < l.length
    · rcases (H.out.1.kept HS.out) with h0 | ⟨b1, off1, rfl, hb1, hc⟩
      · rw [h0] at hlt
        simp at hlt
      · rcases (H.out.2.kept HS.out) with h0 | ⟨b2, off2, rfl, hb2, hd⟩
        · rw [h0] at hlt
          simp at hlt
        · obtain ⟨c0, c1, c2⟩ := hc j hlt
          obtain ⟨d0, d1, d2⟩ := hd j hlt
          clear hc hd
          generalize l[j] = x at *
          obtain ⟨xf, xm, xd⟩ := x
          dsimp only at c0 c1 c2 d0 d1 d2
          have hlt' : (j : Int) < (l.length : Int) := by omega
          have hj0 : (0 : Int) ≤ (j : Int) := by omega
          have z0 := grownBy_trans HS.out (grownBy_drew (r := none))
          go_wp2_with fail
          go_region_held3 (fun w' => w'.cell? ⟨b1, off1 + j * 3, none⟩ = some (.int .i64 xf) ∧ w'.cell? ⟨b1, off1 + j * 3 + 1, none⟩ = some (.bool xm) ∧ w'.cell? ⟨b1, off1 + j * 3 + 2, none⟩ = some (.string ⟨xd.toArray⟩) ∧ w'.cell? ⟨b2, off2 + j * 3, none⟩ = some (.int .i64 xf) ∧ w'.cell? ⟨b2, off2 + j * 3 + 1, none⟩ = some (.bool xm) ∧ w'.cell? ⟨b2, off2 + j * 3 + 2, none⟩ = some (.string ⟨xd.toArray⟩) ∧ w.grownBy w' none) ((first | assumption | exact ⟨c0, c1, c2, d0, d1, d2, z0⟩ | exact efg (by assumption) grownBy_drew))
            (first
              | (go_at_call 29; refine (eq_fg xf xm xd _).mono ?_; rintro e w9 ⟨rfl, hg⟩; have qb := efg (by first | assumption | exact ⟨c0, c1, c2, d0, d1, d2, z0⟩) hg; have z9 := qb.2.2.2.2.2.2)
              | (fail))
          have HZ := Lib.hid (by assumption : w.grownBy w9 none)
          go_wp2_with fail
          go_roundw
          case rel => exact ⟨j + 1, hlt, by go_num, HZ.out⟩
          case measure => simp [intOf]; omega
    · obtain rfl : j = l.length := by omega
      go_wp2_with fail
      go_ret
      exact ⟨rfl, HS.out⟩

def ToFgRel (w : World) (l : List Fg) (M : List Value) (i : Value) (wr : World) : Prop :=
  ∃ j : Nat, j ≤ l.length ∧ i = .int .i64 j ∧ w.grownBy wr none ∧ wr.ownsRow w.heap.size 26 3 (.slice (some ⟨w.heap.size, 0, none⟩) l.length l.length) l.length (fgsV (l.take j) ++ M.drop (j * 3))
def ToFgPost (w : World) (l : List Fg) (e : Ending) (w' : World) : Prop :=
  e = .returned (.slice (some ⟨w.heap.size, 0, none⟩) l.length l.length) ∧ w.grownBy w' none ∧ w'.ownsRow w.heap.size 26 3 (.slice (some ⟨w.heap.size, 0, none⟩) l.length l.length) l.length (fgsV l)

set_option maxRecDepth 100000 in
set_option maxHeartbeats 1000000 in
theorem to_fgs (a : Option Addr) (c : Nat) (l : List Fg) (w : World) (h : FgAt w a l) (hl : l.length ≤ 1048576) : Calls Try.prog 20 #[.slice a l.length c] w (ToFgPost w l) := by
  obtain ⟨i0, hi, hz0, hz1, hz2⟩ := info_of infoFg
  have H := Lib.hid h
  clear h
  go_enter Try.func20, Try.ntmps20
  go_wp2_with (at_make; refine wpList_make_full _ rfl _ _ 29 rfl w.heap.size 26 i0 _ 3 Try.underlying29 hi hz0 hz1 _ _ _ _ l.length rfl rfl rfl rfl ?c1 ?c2 ?c3 ?_)
  case c1 => rw [hz2]; omega
  case c2 => unfold maxLen; omega
  case c3 => exact Nat.le_refl _
  intro w1 hown hg
  have HS := Lib.hid (And.intro hown hg)
  clear hown hg
  go_wp2_with fail
  go_loopw [4] (fun i wr => ToFgRel w l (madeCells #[.int .i64 0, .bool false, .string ⟨#[]⟩] (l.length * 3)).toList i wr) (fun i _ => l.length - (intOf i).toNat)
  case atStart => exact ⟨0, Nat.zero_le _, rfl, HS.out.2, by simpa [fgsV] using HS.out.1⟩
  case round =>
    obtain ⟨j, hj, rfl, hg, hown⟩ := hrel
    have HR := Lib.hid (And.intro hg hown)
    clear hg hown
    by_cases hlt : j < l.length
    · rcases (H.out.kept HR.out.1) with h0 | ⟨b, off, rfl, hb, hc⟩
      · rw [h0] at hlt
        simp at hlt
      · obtain ⟨c0, c1, c2⟩ := hc j hlt
        clear hc
        have HN := Lib.hid (fgs_set l _ j hlt (by simp [size_madeCells] : (madeCells #[.int .i64 0, .bool false, .string ⟨#[]⟩] (l.length * 3)).toList.length = l.length * 3))
        generalize l[j] = x at *
        obtain ⟨xf, xm, xd⟩ := x
        dsimp only at c0 c1 c2
        have hlt' : (j : Int) < (l.length : Int) := by omega
        go_wp2_with fail
        refine (to_fg xf xm xd _).mono ?_
        rintro e w8 ⟨rfl, hg⟩
        have ho0 := HR.out.2.kept hg (by simp [Value.ownBlock])
        have hl2 : (fgsV (l.take j) ++ (madeCells #[.int .i64 0, .bool false, .string ⟨#[]⟩] (l.length * 3)).toList.drop (j * 3)).length = l.length * 3 := ho0.1
        obtain ⟨y00, d00⟩ : ∃ y, w8.cell? ⟨w.heap.size, j * 3, none⟩ = some y := by
          rw [ho0.cellAt (j * 3) (by omega)]
          exact ⟨_, List.getElem?_eq_getElem (by first | (rw [hl2]; omega) | (simp only [List.length_set]; rw [hl2]; omega))⟩
        have f00 := ho0.frozenAt (j * 3)
        obtain ⟨y01, d01⟩ : ∃ y, w8.cell? ⟨w.heap.size, j * 3 + 1, none⟩ = some y := by
          rw [ho0.cellAt (j * 3 + 1) (by omega)]
          exact ⟨_, List.getElem?_eq_getElem (by first | (rw [hl2]; omega) | (simp only [List.length_set]; rw [hl2]; omega))⟩
        have f01 := ho0.frozenAt (j * 3 + 1)
        obtain ⟨y02, d02⟩ : ∃ y, w8.cell? ⟨w.heap.size, j * 3 + 2, none⟩ = some y := by
          rw [ho0.cellAt (j * 3 + 2) (by omega)]
          exact ⟨_, List.getElem?_eq_getElem (by first | (rw [hl2]; omega) | (simp only [List.length_set]; rw [hl2]; omega))⟩
        have f02 := ho0.frozenAt (j * 3 + 2)
        have hs1 := ho0.stored (j * 3) (.int .i64 xf)
        have ho1 := hs1.1
        obtain ⟨y11, d11⟩ : ∃ y, (w8.setCell ⟨w.heap.size, j * 3, none⟩ (.int .i64 xf)).cell? ⟨w.heap.size, j * 3 + 1, none⟩ = some y := by
          rw [ho1.cellAt (j * 3 + 1) (by omega)]
          exact ⟨_, List.getElem?_eq_getElem (by first | (rw [hl2]; omega) | (simp only [List.length_set]; rw [hl2]; omega))⟩
        have f11 := ho1.frozenAt (j * 3 + 1)
        obtain ⟨y12, d12⟩ : ∃ y, (w8.setCell ⟨w.heap.size, j * 3, none⟩ (.int .i64 xf)).cell? ⟨w.heap.size, j * 3 + 2, none⟩ = some y := by
          rw [ho1.cellAt (j * 3 + 2) (by omega)]
          exact ⟨_, List.getElem?_eq_getElem (by first | (rw [hl2]; omega) | (simp only [List.length_set]; rw [hl2]; omega))⟩
        have f12 := ho1.frozenAt (j * 3 + 2)
        have hs2 := ho1.stored (j * 3 + 1) (.bool xm)
        have ho2 := hs2.1
        obtain ⟨y22, d22⟩ : ∃ y, ((w8.setCell ⟨w.heap.size, j * 3, none⟩ (.int .i64 xf)).setCell ⟨w.heap.size, j * 3 + 1, none⟩ (.bool xm)).cell? ⟨w.heap.size, j * 3 + 2, none⟩ = some y := by
          rw [ho2.cellAt (j * 3 + 2) (by omega)]
          exact ⟨_, List.getElem?_eq_getElem (by first | (rw [hl2]; omega) | (simp only [List.length_set]; rw [hl2]; omega))⟩
        have f22 := ho2.frozenAt (j * 3 + 2)
        have hs3 := ho2.stored (j * 3 + 2) (.string ⟨xd.toArray⟩)
        have ho3 := hs3.1
        have hne := HN.out
        try dsimp only at hne
        rw [hne] at ho3
        have HW := Lib.hid (And.intro ho3 (grownBy_new (grownBy_trans HR.out.1 hg) (grownBy_trans (grownBy_trans hs1.2 hs2.2) hs3.2) (Nat.le_refl _)))
        clear hg c0 c1 c2 ho0 ho1 ho2 ho3 hl2 hs1 hs2 hs3 hne
        go_wp2_with fail
        go_roundw
        case rel => exact ⟨j + 1, hlt, by go_num, HW.out.2, HW.out.1⟩
        case measure => simp [intOf]; omega
    · obtain rfl : j = l.length := by omega
      have hown := HR.out.2
      rw [List.take_length, List.drop_eq_nil_of_le (by simp [size_madeCells]), List.append_nil] at hown
      have HW := Lib.hid hown
      clear hown
      go_wp2_with fail
      go_ret
      exact ⟨rfl, HR.out.1, HW.out⟩

set_option maxRecDepth 100000 in
theorem sz_fg (f : Int) (m : Bool) (d : List UInt8) (q : Int) (w : World) (h0 : 0 ≤ q) (h1 : q ≤ 1048576) (hm : (d.length : Int) ≤ 9223372036854775807) : Calls Try.prog 9 #[.agg #[.int .i64 f, .bool m, .string ⟨d.toArray⟩], .int .i64 q] w fun e w' => e = .returned (.int .i64 (if (d.length : Int) ≤ q then q - d.length else -1)) ∧ w.grownBy w' none := by
  by_cases h : (d.length : Int) ≤ q
  · rw [if_pos h]
    go_enter Try.func9, Try.ntmps9
    go_wp2
    go_ret
    exact ⟨rfl, World.grownBy_alloc _ _ _⟩
  · rw [if_neg h]
    go_enter Try.func9, Try.ntmps9
    go_wp2
    go_ret
    exact ⟨rfl, World.grownBy_alloc _ _ _⟩

def SzFgRel (w : World) (l : List Fg) (k i : Value) (wr : World) : Prop :=
  ∃ (j : Nat) (q : Int), j ≤ l.length ∧ i = .int .i64 j ∧ k = .int .i64 q ∧ 0 ≤ q ∧ q ≤ 1048576 ∧ w.grownBy wr none ∧ ∀ x ∈ l.take j, x.d.length ≤ 1048576
def SzFgPost (w : World) (l : List Fg) (e : Ending) (w' : World) : Prop :=
  ∃ q : Int, e = .returned (.int .i64 q) ∧ w.grownBy w' none ∧ (0 ≤ q → l.length ≤ 1048576 ∧ ∀ x ∈ l, x.d.length ≤ 1048576)

set_option maxRecDepth 100000 in
set_option maxHeartbeats 1000000 in
theorem sz_fgs (a : Option Addr) (c : Nat) (l : List Fg) (w : World) (h : FgAt w a l) (hl : l.length ≤ 9223372036854775807) (hm : ∀ x ∈ l, x.d.length ≤ 9223372036854775807) : Calls Try.prog 18 #[.slice a l.length c, .int .i64 1048576] w (SzFgPost w l) := by
  have H := Lib.hid h
  have HM := Lib.hid hm
  clear h hm
  by_cases hn : (l.length : Int) ≤ 1048576
  · go_enter Try.func18, Try.ntmps18
    go_wp2_with fail
    go_loopw [1, 5] (fun k i wr => SzFgRel w l k i wr) (fun _ i _ => l.length - (intOf i).toNat)
    case atStart => exact ⟨0, 1048576 - l.length, Nat.zero_le _, rfl, rfl, by omega, by omega, World.grownBy.refl _ _, by simp⟩
    case round =>
      obtain ⟨j, q, hj, rfl, rfl, hq0, hq1, hg, hall⟩ := hrel
      have HS := Lib.hid (And.intro hg hall)
      clear hg hall
      by_cases hlt : j < l.length
      · rcases (H.out.kept HS.out.1) with h0 | ⟨b, off, rfl, hb, hc⟩
        · rw [h0] at hlt
          simp at hlt
        · obtain ⟨c0, c1, c2⟩ := hc j hlt
          clear hc
          have hmx := HM.out l[j] (List.getElem_mem hlt)
          have HX := Lib.hid (all_next (P := fun x : Fg => x.d.length ≤ 1048576) l j hlt HS.out.2)
          generalize l[j] = x at *
          obtain ⟨xf, xm, xd⟩ := x
          dsimp only at hmx c0 c1 c2
          have hlt' : (j : Int) < (l.length : Int) := by omega
          by_cases hm : (xd.length : Int) ≤ q
          · go_wp2_with fail
            refine (sz_fg xf xm xd q _ hq0 hq1 (by omega)).mono ?_
            rintro e w8 ⟨rfl, hg⟩
            rw [if_pos hm]
            have H8 := Lib.hid (grownBy_trans HS.out.1 hg)
            clear hg c0 c1 c2
            have hq2 : 0 ≤ q - (xd.length : Int) := by omega
            have hq3 : q - (xd.length : Int) ≤ 1048576 := by omega
            go_wp2_with fail
            go_roundw
            case rel => exact ⟨j + 1, _, hlt, by go_num, rfl, hq2, hq3, H8.out, HX.out (by show xd.length ≤ _; omega)⟩
            case measure => simp [intOf]; omega
          · go_wp2_with fail
            refine (sz_fg xf xm xd q _ hq0 hq1 (by omega)).mono ?_
            rintro e w8 ⟨rfl, hg⟩
            rw [if_neg (by omega : ¬ (xd.length : Int) ≤ q)]
            have H8 := Lib.hid (grownBy_trans HS.out.1 hg)
            clear hg c0 c1 c2
            go_wp2_with fail
            go_ret
            exact ⟨_, rfl, H8.out, by omega⟩
      · obtain rfl : j = l.length := by omega
        go_wp2_with fail
        go_ret
        exact ⟨_, rfl, HS.out.1, fun _ => ⟨by omega, fun x hx => HS.out.2 x (by rw [List.take_length]; exact hx)⟩⟩
  · go_enter Try.func18, Try.ntmps18
    go_wp2_with fail
    go_ret
    exact ⟨_, rfl, World.grownBy.refl _ _, by omega⟩

end Go.Proofs.Ytjgmkjbeagcgfaa
