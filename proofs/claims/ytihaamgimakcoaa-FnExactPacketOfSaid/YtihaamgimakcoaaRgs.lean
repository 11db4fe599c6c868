/- The laws' own helpers of ranges: a copy of them, whether two rows of them are the same. -/
import Derived.Test.YtihaamgimakcoaaTcpOkS
import Derived.Test.YtihaamgimakcoaaRow
import Derived.Deep.RegionHeld3
namespace Go.Proofs.Ytihaamgimakcoaa
open Go.RowKit

def rgV (p : Rg) : List Value := [.int .i64 p.1, .int .i64 p.2]
def rgsV (l : List Rg) : List Value := l.flatMap rgV
theorem rgsV_len : ∀ l : List Rg, (rgsV l).length = l.length * 2
  | [] => rfl
  | p :: l => by
    have := rgsV_len l
    simp only [rgsV, List.flatMap_cons, List.length_append, List.length_cons] at this ⊢
    rw [this]
    simp [rgV]
    omega
theorem rgsV_get : ∀ (l : List Rg) (i : Nat) (h : i < l.length), (rgsV l)[i * 2]? = some (.int .i64 (l[i]).1) ∧ (rgsV l)[i * 2 + 1]? = some (.int .i64 (l[i]).2)
  | p :: l, 0, _ => by simp [rgsV, rgV]
  | p :: l, i + 1, h => by
    have a := rgsV_get l i (by simpa using h)
    have e : rgsV (p :: l) = .int .i64 p.1 :: .int .i64 p.2 :: rgsV l := rfl
    rw [e, show (i + 1) * 2 = i * 2 + 1 + 1 from by omega]
    simpa using a
theorem rgs_set (l : List Rg) (M : List Value) (j : Nat) (h : j < l.length) (hM : M.length = l.length * 2) :
    ((rgsV (l.take j) ++ M.drop (j * 2)).set (j * 2) (.int .i64 (l[j]).1)).set (j * 2 + 1) (.int .i64 (l[j]).2) = rgsV (l.take (j + 1)) ++ M.drop ((j + 1) * 2) := by
  have e1 : M.drop (j * 2) = M[j * 2] :: M[j * 2 + 1] :: M.drop ((j + 1) * 2) := by
    rw [List.drop_eq_getElem_cons (by omega), List.drop_eq_getElem_cons (by omega)]
    rw [show (j + 1) * 2 = j * 2 + 1 + 1 from by omega]
  have e2 : (rgsV (l.take j)).length = j * 2 := by rw [rgsV_len, List.length_take]; omega
  have e3 : rgsV (l.take (j + 1)) = rgsV (l.take j) ++ rgV l[j] := by
    rw [List.take_succ_eq_append_getElem h, rgsV, List.flatMap_append]
    simp [rgsV]
  rw [e1, e3, List.set_append_right _ _ (by omega), List.set_append_right _ _ (by omega), e2]
  simp [rgV]

theorem rgAt_own {w : World} {base : Nat} {e : TypeId} {g n c : Nat} {l : List Rg} (h : w.ownsRow base e 2 (.slice (some ⟨g, 0, none⟩) n c) n (rgsV l)) (hn : n = l.length) : RgAt w (some ⟨g, 0, none⟩) l := by
  subst hn
  refine .inr ⟨g, 0, rfl, (h.lt g rfl).2, fun i hi => ?_⟩
  obtain ⟨a, b⟩ := rgsV_get l i hi
  rw [Nat.zero_add, h.cellAt (i * 2) (by omega), h.cellAt (i * 2 + 1) (by omega)]
  exact ⟨a, b⟩

set_option maxRecDepth 100000 in
theorem to_range (t : Int) (m : Int) (w : World) : Calls Try.prog 51 #[.agg #[.int .i64 t, .int .i64 m]] w fun e w' => e = .returned (.agg #[.int .i64 t, .int .i64 m]) ∧ w.grownBy w' none := by
  go_enter Try.func51, Try.ntmps51
  go_wp2
  exact bodyPost_ret (v := .agg #[.int .i64 t, .int .i64 m]) (by simp [results, Try.results51, go_sem]) rfl ⟨rfl, grownBy_trans (World.grownBy_alloc _ _ _) (grownBy_trans (World.grownBy_alloc _ _ _) (World.grownBy_alloc _ _ _))⟩

set_option maxRecDepth 100000 in
theorem eq_range (t : Int) (m : Int) (w : World) : Calls Try.prog 52 #[.agg #[.int .i64 t, .int .i64 m], .agg #[.int .i64 t, .int .i64 m]] w fun e w' => e = .returned (.bool true) ∧ w.grownBy w' none := by
  go_enter Try.func52, Try.ntmps52
  go_wp2
  go_ret
  exact ⟨rfl, grownBy_trans (World.grownBy_alloc _ _ _) (World.grownBy_alloc _ _ _)⟩

theorem infoRg : (Try.prog.info? 82).map (fun i => (i.zero, i.size, i.bytes)) = some (some (.agg #[.int .i64 0, .int .i64 0]), 2, 16) := by kernel_rfl

def ToRel (w : World) (l : List Rg) (M : List Value) (i : Value) (wr : World) : Prop :=
  ∃ j : Nat, j ≤ l.length ∧ i = .int .i64 j ∧ w.grownBy wr none ∧ wr.ownsRow w.heap.size 82 2 (.slice (some ⟨w.heap.size, 0, none⟩) l.length l.length) l.length (rgsV (l.take j) ++ M.drop (j * 2))
def ToPost (w : World) (l : List Rg) (e : Ending) (w' : World) : Prop :=
  e = .returned (.slice (some ⟨w.heap.size, 0, none⟩) l.length l.length) ∧ w.grownBy w' none ∧ RgAt w' (some ⟨w.heap.size, 0, none⟩) l

set_option maxRecDepth 100000 in
set_option maxHeartbeats 1000000 in
theorem to_ranges (a : Option Addr) (c : Nat) (l : List Rg) (w : World) (h : RgAt w a l) (hl : l.length ≤ 1048576) : Calls Try.prog 25 #[.slice a l.length c] w (ToPost w l) := by
  obtain ⟨i0, hi, hz0, hz1, hz2⟩ := info_of infoRg
  have H := Lib.hid h
  clear h
  go_enter Try.func25, Try.ntmps25
  go_wp2_with (at_make; refine wpList_make_full _ rfl _ _ 34 rfl w.heap.size 82 i0 _ 2 Try.underlying34 hi hz0 hz1 _ _ _ _ l.length rfl rfl rfl rfl ?c1 ?c2 ?c3 ?_)
  case c1 => rw [hz2]; omega
  case c2 => unfold maxLen; omega
  case c3 => exact Nat.le_refl _
  intro w1 hown hg
  have HS := Lib.hid (And.intro hown hg)
  clear hown hg
  go_wp2_with fail
  go_loopw [4] (fun i wr => ToRel w l (madeCells #[.int .i64 0, .int .i64 0] (l.length * 2)).toList i wr) (fun i _ => l.length - (intOf i).toNat)
  case atStart => exact ⟨0, Nat.zero_le _, rfl, HS.out.2, by simpa [rgsV] using HS.out.1⟩
  case round =>
    obtain ⟨j, hj, rfl, hg, hown⟩ := hrel
    have HR := Lib.hid (And.intro hg hown)
    clear hg hown
    by_cases hlt : j < l.length
    · rcases (H.out.kept HR.out.1) with h0 | ⟨b, off, rfl, hb, hc⟩
      · rw [h0] at hlt
        simp at hlt
      · obtain ⟨c0, c1⟩ := hc j hlt
        clear hc
        have HN := Lib.hid (rgs_set l _ j hlt (by simp [size_madeCells] : (madeCells #[.int .i64 0, .int .i64 0] (l.length * 2)).toList.length = l.length * 2))
        generalize l[j] = x at *
        obtain ⟨t, m⟩ := x
        have hlt' : (j : Int) < (l.length : Int) := by omega
        go_wp2_with fail
        refine (to_range t m _).mono ?_
        rintro e w8 ⟨rfl, hg⟩
        have hown := HR.out.2.kept hg (by simp [Value.ownBlock])
        have hl2 : (rgsV (l.take j) ++ (madeCells #[.int .i64 0, .int .i64 0] (l.length * 2)).toList.drop (j * 2)).length = l.length * 2 := hown.1
        obtain ⟨y0, d0⟩ : ∃ y, w8.cell? ⟨w.heap.size, j * 2, none⟩ = some y := by
          rw [hown.cellAt (j * 2) (by omega)]
          exact ⟨_, List.getElem?_eq_getElem (by rw [hl2]; omega)⟩
        obtain ⟨y1, d1⟩ : ∃ y, w8.cell? ⟨w.heap.size, j * 2 + 1, none⟩ = some y := by
          rw [hown.cellAt (j * 2 + 1) (by omega)]
          exact ⟨_, List.getElem?_eq_getElem (by rw [hl2]; omega)⟩
        have f0 := hown.frozenAt (j * 2)
        have f1 := hown.frozenAt (j * 2 + 1)
        have hs1 := hown.stored (j * 2) (.int .i64 t)
        have f2 := hs1.1.frozenAt (j * 2 + 1)
        obtain ⟨y, d2⟩ : ∃ y, (w8.setCell ⟨w.heap.size, j * 2, none⟩ (.int .i64 t)).cell? ⟨w.heap.size, j * 2 + 1, none⟩ = some y := by
          rw [hs1.1.cellAt (j * 2 + 1) (by omega)]
          exact ⟨_, List.getElem?_eq_getElem (by rw [List.length_set, hl2]; omega)⟩
        have hs2 := hs1.1.stored (j * 2 + 1) (.int .i64 m)
        have hs3 := hs2.1
        have hne := HN.out
        try dsimp only at hne
        rw [hne] at hs3
        have HW := Lib.hid (And.intro hs3 (grownBy_new (grownBy_trans HR.out.1 hg) (grownBy_trans hs1.2 hs2.2) (Nat.le_refl _)))
        clear hg c0 c1 hown hl2 hs1 hs2 hs3 hne
        go_wp2_with fail
        go_roundw
        case rel => exact ⟨j + 1, hlt, by go_num, HW.out.2, HW.out.1⟩
        case measure => simp [intOf]; omega
    · obtain rfl : j = l.length := by omega
      have hown := HR.out.2
      rw [List.take_length, List.drop_eq_nil_of_le (by simp [size_madeCells]), List.append_nil] at hown
      have HW := Lib.hid (rgAt_own hown rfl)
      clear hown
      go_wp2_with fail
      go_ret
      exact ⟨rfl, HR.out.1, HW.out⟩

def EqRel (w : World) (n : Nat) (i : Value) (wr : World) : Prop := ∃ j : Nat, j ≤ n ∧ i = .int .i64 j ∧ w.grownBy wr none

set_option maxRecDepth 100000 in
set_option maxHeartbeats 1000000 in
theorem eq_ranges (a b : Option Addr) (c d : Nat) (l : List Rg) (w : World) (h : RgAt w a l) (k : RgAt w b l) (hl : l.length ≤ 1048576) : Calls Try.prog 26 #[.slice a l.length c, .slice b l.length d] w fun e w' => e = .returned (.bool true) ∧ w.grownBy w' none := by
  have H := Lib.hid (And.intro h k)
  clear h k
  go_enter Try.func26, Try.ntmps26
  go_wp2_with fail
  go_loopw [5] (fun i wr => EqRel w l.length i wr) (fun i _ => l.length - (intOf i).toNat)
  case atStart => exact ⟨0, Nat.zero_le _, rfl, World.grownBy.refl _ _⟩
  case round =>
    obtain ⟨j, hj, rfl, hg⟩ := hrel
    have HS := Lib.hid hg
    clear hg
    by_cases hlt : j < l.length
    · rcases (H.out.1.kept HS.out) with h0 | ⟨b1, off1, rfl, hb1, hc⟩
      · rw [h0] at hlt
        simp at hlt
      · rcases (H.out.2.kept HS.out) with h0 | ⟨b2, off2, rfl, hb2, hd⟩
        · rw [h0] at hlt
          simp at hlt
        · obtain ⟨c0, c1⟩ := hc j hlt
          obtain ⟨d0, d1⟩ := hd j hlt
          clear hc hd
          generalize l[j] = x at *
          obtain ⟨t, m⟩ := x
          have hlt' : (j : Int) < (l.length : Int) := by omega
          have hj0 : (0 : Int) ≤ (j : Int) := by omega
          have z0 := grownBy_trans HS.out (grownBy_drew (r := none))
          go_wp2_with fail
          go_region_held3 (fun w' => w'.cell? ⟨b1, off1 + j * 2, none⟩ = some (.int .i64 t) ∧ w'.cell? ⟨b1, off1 + j * 2 + 1, none⟩ = some (.int .i64 m) ∧ w'.cell? ⟨b2, off2 + j * 2, none⟩ = some (.int .i64 t) ∧ w'.cell? ⟨b2, off2 + j * 2 + 1, none⟩ = some (.int .i64 m) ∧ w.grownBy w' none) ((refine ⟨by first | assumption | (simp [*]; done), by first | assumption | (simp [*]; done), by first | assumption | (simp [*]; done), by first | assumption | (simp [*]; done), by assumption⟩))
            (first | (go_at_call 52; refine (eq_range _ _ _).mono ?_; rintro e w9 ⟨rfl, hg⟩; have q0 := hg.cell (a := ⟨b1, off1 + j * 2, none⟩) (v := .int .i64 t) (by first | assumption | (simp [*]; done)) (by simp); have q1 := hg.cell (a := ⟨b1, off1 + j * 2 + 1, none⟩) (v := .int .i64 m) (by first | assumption | (simp [*]; done)) (by simp); have q2 := hg.cell (a := ⟨b2, off2 + j * 2, none⟩) (v := .int .i64 t) (by first | assumption | (simp [*]; done)) (by simp); have q3 := hg.cell (a := ⟨b2, off2 + j * 2 + 1, none⟩) (v := .int .i64 m) (by first | assumption | (simp [*]; done)) (by simp); have q4 := grownBy_trans (a := w) (by assumption) hg))
          have HZ := Lib.hid (by assumption : w.grownBy w9 none)
          go_wp2_with fail
          go_roundw
          case rel => exact ⟨j + 1, hlt, by go_num, HZ.out⟩
          case measure => simp [intOf]; omega
    · obtain rfl : j = l.length := by omega
      go_wp2_with fail
      go_ret
      exact ⟨rfl, HS.out⟩

/-- A list out of what is known at each index. -/
theorem list_of {α : Type} {P : Nat → α → Prop} : ∀ n : Nat, (∀ i, i < n → ∃ x, P i x) → ∃ l : List α, l.length = n ∧ ∀ i (h : i < l.length), P i l[i]
  | 0, _ => ⟨[], rfl, fun i h => by simp at h⟩
  | n + 1, h => by
    obtain ⟨l, hl, hp⟩ := list_of n (fun i hi => h i (by omega))
    obtain ⟨x, hx⟩ := h n (by omega)
    refine ⟨l ++ [x], by simp [hl], fun i hi => ?_⟩
    by_cases e : i < l.length
    · rw [List.getElem_append_left e]
      exact hp i e
    · have e2 : i = l.length := by simp at hi; omega
      subst e2
      rw [List.getElem_append_right (Nat.le_refl _)]
      simp only [Nat.sub_self, List.getElem_cons_zero]
      rw [hl]
      exact hx

theorem rgAt_of {w : World} {x : Addr} {l : List Rg} (h : ∀ i (hi : i < l.length), w.cell? (x.add (i * 2)) = some (.int .i64 (l[i]).1) ∧ w.cell? (x.add (i * 2 + 1)) = some (.int .i64 (l[i]).2)) : RgAt w (some x) l := by
  obtain ⟨b, off, spot⟩ := x
  by_cases h0 : l.length = 0
  · exact .inl (List.length_eq_zero_iff.mp h0)
  · have c0 := (h 0 (by omega)).1
    have hs : spot = none := by simpa [Addr.add] using World.cell?_spot c0
    subst hs
    have hb : b < w.heap.size := by
      have := World.block_lt_of_cell? w _ c0
      simpa [Addr.add] using this
    refine .inr ⟨b, off, rfl, hb, fun i hi => ?_⟩
    obtain ⟨ci, di⟩ := h i hi
    have e1 : (⟨b, off, none⟩ : Addr).add (i * 2) = ⟨b, off + i * 2, none⟩ := by
      by_cases e : i = 0
      · subst e; simp [Addr.add]
      · have e' : i * 2 ≠ 0 := by omega
        simp [Addr.add, e']
    have e2 : (⟨b, off, none⟩ : Addr).add (i * 2 + 1) = ⟨b, off + i * 2 + 1, none⟩ := by simp [Addr.add]; omega
    rw [e1] at ci
    rw [e2] at di
    exact ⟨ci, di⟩

set_option maxRecDepth 100000 in
theorem sz_ranges (a : Option Addr) (c : Nat) (l : List Rg) (k : Int) (w : World) (hl : (l.length : Int) ≤ 9223372036854775807) (hk : k = 1048576) : Calls Try.prog 23 #[.slice a l.length c, .int .i64 k] w fun e w' => e = .returned (.int .i64 (if (l.length : Int) ≤ 1048576 then 1048576 - (l.length : Int) else -1)) ∧ w' = w := by
  subst hk
  by_cases h : (l.length : Int) ≤ 1048576
  · rw [if_pos h]
    go_enter Try.func23, Try.ntmps23
    go_wp2
    go_ret
    exact ⟨rfl, rfl⟩
  · rw [if_neg h]
    go_enter Try.func23, Try.ntmps23
    go_wp2
    go_ret
    exact ⟨rfl, rfl⟩

end Go.Proofs.Ytihaamgimakcoaa
