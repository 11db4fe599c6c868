/- Rows of ranges, the laws' own helpers of them: whether two rows of them are the same, their marking. -/
import Derived.Test.YtobibbfamkjlaaaPcMark
namespace Go.Proofs.Ytobibbfamkjlaaa
open Go.RowKit

abbrev Rg := Int × Int
def RgAt (w : World) (a : Option Addr) (l : List Rg) : Prop :=
  l = [] ∨ ∃ b off, a = some ⟨b, off, none⟩ ∧ b < w.heap.size ∧ ∀ i (h : i < l.length), w.cell? ⟨b, off + i * 2, none⟩ = some (.int .i64 (l[i]).1) ∧ w.cell? ⟨b, off + i * 2 + 1, none⟩ = some (.int .i64 (l[i]).2)
theorem RgAt.kept {w w' : World} {a : Option Addr} {l : List Rg} (h : RgAt w a l) (hg : w.grownBy w' none) : RgAt w' a l := by
  rcases h with h | ⟨b, off, ha, hb, hc⟩
  · exact .inl h
  · exact .inr ⟨b, off, ha, Nat.lt_of_lt_of_le hb hg.size, fun i hi => ⟨hg.cell (hc i hi).1 (by simp), hg.cell (hc i hi).2 (by simp)⟩⟩

def rgV (p : Rg) : List Value := [.int .i64 p.1, .int .i64 p.2]
def rgsV (l : List Rg) : List Value := l.flatMap rgV
theorem rgsV_len : ∀ l : List Rg, (rgsV l).length = l.length * 2
  | [] => rfl
  | p :: l => by
    have := rgsV_len l
    simp only [rgsV, List.flatMap_cons, List.length_append, List.length_cons] at this ⊢
    rw [this]
    simp [rgV]
    omega
theorem rgsV_get : ∀ (l : List Rg) (i : Nat) (h : i < l.length), (rgsV l)[i * 2]? = some (.int .i64 (l[i]).1) ∧ (rgsV l)[i * 2 + 1]? = some (.int .i64 (l[i]).2)
  | p :: l, 0, _ => by simp [rgsV, rgV]
  | p :: l, i + 1, h => by
    have a := rgsV_get l i (by simpa using h)
    have e : rgsV (p :: l) = .int .i64 p.1 :: .int .i64 p.2 :: rgsV l := rfl
    rw [e, show (i + 1) * 2 = i * 2 + 1 + 1 from by omega]
    simpa using a
theorem rgs_set (l : List Rg) (M : List Value) (j : Nat) (h : j < l.length) (hM : M.length = l.length * 2) :
    ((rgsV (l.take j) ++ M.drop (j * 2)).set (j * 2) (.int .i64 (l[j]).1)).set (j * 2 + 1) (.int .i64 (l[j]).2) = rgsV (l.take (j + 1)) ++ M.drop ((j + 1) * 2) := by
  have e1 : M.drop (j * 2) = M[j * 2] :: M[j * 2 + 1] :: M.drop ((j + 1) * 2) := by
    rw [List.drop_eq_getElem_cons (by omega), List.drop_eq_getElem_cons (by omega)]
    rw [show (j + 1) * 2 = j * 2 + 1 + 1 from by omega]
  have e2 : (rgsV (l.take j)).length = j * 2 := by rw [rgsV_len, List.length_take]; omega
  have e3 : rgsV (l.take (j + 1)) = rgsV (l.take j) ++ rgV l[j] := by
    rw [List.take_succ_eq_append_getElem h, rgsV, List.flatMap_append]
    simp [rgsV]
  rw [e1, e3, List.set_append_right _ _ (by omega), List.set_append_right _ _ (by omega), e2]
  simp [rgV]

theorem rgAt_own {w : World} {base : Nat} {e : TypeId} {g n c : Nat} {l : List Rg} (h : w.ownsRow base e 2 (.slice (some ⟨g, 0, none⟩) n c) n (rgsV l)) (hn : n = l.length) : RgAt w (some ⟨g, 0, none⟩) l := by
  subst hn
  refine .inr ⟨g, 0, rfl, (h.lt g rfl).2, fun i hi => ?_⟩
  obtain ⟨a, b⟩ := rgsV_get l i hi
  rw [Nat.zero_add, h.cellAt (i * 2) (by omega), h.cellAt (i * 2 + 1) (by omega)]
  exact ⟨a, b⟩

set_option maxRecDepth 100000 in
theorem eq_range (t : Int) (m : Int) (w : World) : Calls Try.prog 37 #[.agg #[.int .i64 t, .int .i64 m], .agg #[.int .i64 t, .int .i64 m]] w fun e w' => e = .returned (.bool true) ∧ w.grownBy w' none := by
  go_enter Try.func37, Try.ntmps37
  go_wp2
  go_ret
  exact ⟨rfl, grownBy_trans (World.grownBy_alloc _ _ _) (World.grownBy_alloc _ _ _)⟩

theorem infoRg : (Try.prog.info? 35).map (fun i => (i.zero, i.size, i.bytes)) = some (some (.agg #[.int .i64 0, .int .i64 0]), 2, 16) := by kernel_rfl

def EqRRel (w : World) (n : Nat) (i : Value) (wr : World) : Prop := ∃ j : Nat, j ≤ n ∧ i = .int .i64 j ∧ w.grownBy wr none

set_option maxRecDepth 100000 in
set_option maxHeartbeats 1000000 in
theorem eq_ranges (a b : Option Addr) (c d : Nat) (l : List Rg) (w : World) (h : RgAt w a l) (k : RgAt w b l) (hl : l.length ≤ 1048576) : Calls Try.prog 21 #[.slice a l.length c, .slice b l.length d] w fun e w' => e = .returned (.bool true) ∧ w.grownBy w' none := by
  have H := Lib.hid (And.intro h k)
  clear h k
  go_enter Try.func21, Try.ntmps21
  go_wp2_with fail
  go_loopw [5] (fun i wr => EqRRel w l.length i wr) (fun i _ => l.length - (intOf i).toNat)
  case atStart => exact ⟨0, Nat.zero_le _, rfl, World.grownBy.refl _ _⟩
  case round =>
    obtain ⟨j, hj, rfl, hg⟩ := hrel
    have HS := Lib.hid hg
    clear hg
    by_cases hlt : j < l.length
    · rcases (H.out.1.kept HS.out) with h0 | ⟨b1, off1, rfl, hb1, hc⟩
      · rw [h0] at hlt
        simp at hlt
      · rcases (H.out.2.kept HS.out) with h0 | ⟨b2, off2, rfl, hb2, hd⟩
        · rw [h0] at hlt
          simp at hlt
        · obtain ⟨c0, c1⟩ := hc j hlt
          obtain ⟨d0, d1⟩ := hd j hlt
          clear hc hd
          generalize l[j] = x at *
          obtain ⟨t, m⟩ := x
          have hlt' : (j : Int) < (l.length : Int) := by omega
          have hj0 : (0 : Int) ≤ (j : Int) := by omega
          have z0 := grownBy_trans HS.out (grownBy_drew (r := none))
          go_wp2_with fail
          go_region_held3 (fun w' => w'.cell? ⟨b1, off1 + j * 2, none⟩ = some (.int .i64 t) ∧ w'.cell? ⟨b1, off1 + j * 2 + 1, none⟩ = some (.int .i64 m) ∧ w'.cell? ⟨b2, off2 + j * 2, none⟩ = some (.int .i64 t) ∧ w'.cell? ⟨b2, off2 + j * 2 + 1, none⟩ = some (.int .i64 m) ∧ w.grownBy w' none) ((refine ⟨by first | assumption | (simp [*]; done), by first | assumption | (simp [*]; done), by first | assumption | (simp [*]; done), by first | assumption | (simp [*]; done), by assumption⟩))
            (first | (go_at_call 37; refine (eq_range _ _ _).mono ?_; rintro e w9 ⟨rfl, hg⟩; have q0 := hg.cell (a := ⟨b1, off1 + j * 2, none⟩) (v := .int .i64 t) (by first | assumption | (simp [*]; done)) (by simp); have q1 := hg.cell (a := ⟨b1, off1 + j * 2 + 1, none⟩) (v := .int .i64 m) (by first | assumption | (simp [*]; done)) (by simp); have q2 := hg.cell (a := ⟨b2, off2 + j * 2, none⟩) (v := .int .i64 t) (by first | assumption | (simp [*]; done)) (by simp); have q3 := hg.cell (a := ⟨b2, off2 + j * 2 + 1, none⟩) (v := .int .i64 m) (by first | assumption | (simp [*]; done)) (by simp); have q4 := grownBy_trans (a := w) (by assumption) hg))
          have HZ := Lib.hid (by assumption : w.grownBy w9 none)
          go_wp2_with fail
          go_roundw
          case rel => exact ⟨j + 1, hlt, by go_num, HZ.out⟩
          case measure => simp [intOf]; omega
    · obtain rfl : j = l.length := by omega
      go_wp2_with fail
      go_ret
      exact ⟨rfl, HS.out⟩

/-- A list out of what is known at each index. -/
theorem rgAt_of {w : World} {x : Addr} {l : List Rg} (h : ∀ i (hi : i < l.length), w.cell? (x.add (i * 2)) = some (.int .i64 (l[i]).1) ∧ w.cell? (x.add (i * 2 + 1)) = some (.int .i64 (l[i]).2)) : RgAt w (some x) l := by
  obtain ⟨b, off, spot⟩ := x
  by_cases h0 : l.length = 0
  · exact .inl (List.length_eq_zero_iff.mp h0)
  · have c0 := (h 0 (by omega)).1
    have hs : spot = none := by simpa [Addr.add] using World.cell?_spot c0
    subst hs
    have hb : b < w.heap.size := by
      have := World.block_lt_of_cell? w _ c0
      simpa [Addr.add] using this
    refine .inr ⟨b, off, rfl, hb, fun i hi => ?_⟩
    obtain ⟨ci, di⟩ := h i hi
    have e1 : (⟨b, off, none⟩ : Addr).add (i * 2) = ⟨b, off + i * 2, none⟩ := by
      by_cases e : i = 0
      · subst e; simp [Addr.add]
      · have e' : i * 2 ≠ 0 := by omega
        simp [Addr.add, e']
    have e2 : (⟨b, off, none⟩ : Addr).add (i * 2 + 1) = ⟨b, off + i * 2 + 1, none⟩ := by simp [Addr.add]; omega
    rw [e1] at ci
    rw [e2] at di
    exact ⟨ci, di⟩

end Go.Proofs.Ytobibbfamkjlaaa
