/- Rows of ranges (pairs of ints) as owned memory: copies, whether two rows are the same, marks; cells of one's own. -/
import Derived.Test.YteffpcgmoegomaaDraw
import Derived.Deep.RegionHeld3
import Derived.Laws.IdiomStrings
import Derived.Lib.AppendZeros
import Derived.Laws.AppendOwnNone
import Derived.StillTailTactics
import Derived.Deep.AppendLies
namespace Go.Proofs.Yteffpcgmoegomaa
open Go.RowKit

theorem grownBy_drew {a : World} {r : Option Nat} : a.grownBy a.drew r := ⟨rfl, rfl, rfl, Nat.le_refl _, fun _ _ _ => rfl⟩

theorem all_next {α : Type} {P : α → Prop} (l : List α) (j : Nat) (h : j < l.length) (ha : ∀ x ∈ l.take j, P x) (hx : P l[j]) : ∀ x ∈ l.take (j + 1), P x := by
  intro x hm
  rw [List.take_succ_eq_append_getElem h, List.mem_append, List.mem_singleton] at hm
  rcases hm with hm | rfl
  · exact ha x hm
  · exact hx

theorem info_of {T : TypeId} {z : Value} {s b : Nat} (h : (Try.prog.info? T).map (fun i => (i.zero, i.size, i.bytes)) = some (some z, s, b)) : ∃ i, Try.prog.info? T = some i ∧ i.zero = some z ∧ i.size = s ∧ i.bytes = b := by
  cases hi : Try.prog.info? T with
  | none => rw [hi] at h; cases h
  | some i =>
    rw [hi] at h
    simp at h
    exact ⟨i, rfl, h.1, h.2.1, h.2.2⟩

abbrev Rg := Int × Int

def RgAt (w : World) (a : Option Addr) (l : List Rg) : Prop :=
  l = [] ∨ ∃ b off, a = some ⟨b, off, none⟩ ∧ b < w.heap.size ∧ ∀ i (h : i < l.length), w.cell? ⟨b, off + i * 2, none⟩ = some (.int .i64 (l[i]).1) ∧ w.cell? ⟨b, off + i * 2 + 1, none⟩ = some (.int .i64 (l[i]).2)

theorem RgAt.kept {w w' : World} {a : Option Addr} {l : List Rg} (h : RgAt w a l) (hg : w.grownBy w' none) : RgAt w' a l := by
  rcases h with h | ⟨b, off, ha, hb, hc⟩
  · exact .inl h
  · exact .inr ⟨b, off, ha, Nat.lt_of_lt_of_le hb hg.size, fun i hi => ⟨hg.cell (hc i hi).1 (by simp), hg.cell (hc i hi).2 (by simp)⟩⟩

def rgV (p : Rg) : List Value := [.int .i64 p.1, .int .i64 p.2]

def rgsV (l : List Rg) : List Value := l.flatMap rgV

theorem rgsV_len : ∀ l : List Rg, (rgsV l).length = l.length * 2
  | [] => rfl
  | p :: l => by
    have := rgsV_len l
    simp only [rgsV, List.flatMap_cons, List.length_append, List.length_cons] at this ⊢
    rw [this]
    simp [rgV]
    omega

theorem rgsV_get : ∀ (l : List Rg) (i : Nat) (h : i < l.length), (rgsV l)[i * 2]? = some (.int .i64 (l[i]).1) ∧ (rgsV l)[i * 2 + 1]? = some (.int .i64 (l[i]).2)
  | p :: l, 0, _ => by simp [rgsV, rgV]
  | p :: l, i + 1, h => by
    have a := rgsV_get l i (by simpa using h)
    have e : rgsV (p :: l) = .int .i64 p.1 :: .int .i64 p.2 :: rgsV l := rfl
    rw [e, show (i + 1) * 2 = i * 2 + 1 + 1 from by omega]
    simpa using a

theorem rgs_set (l : List Rg) (M : List Value) (j : Nat) (h : j < l.length) (hM : M.length = l.length * 2) :
    ((rgsV (l.take j) ++ M.drop (j * 2)).set (j * 2) (.int .i64 (l[j]).1)).set (j * 2 + 1) (.int .i64 (l[j]).2) = rgsV (l.take (j + 1)) ++ M.drop ((j + 1) * 2) := by
  have e1 : M.drop (j * 2) = M[j * 2] :: M[j * 2 + 1] :: M.drop ((j + 1) * 2) := by
    rw [List.drop_eq_getElem_cons (by omega), List.drop_eq_getElem_cons (by omega)]
    rw [show (j + 1) * 2 = j * 2 + 1 + 1 from by omega]
  have e2 : (rgsV (l.take j)).length = j * 2 := by rw [rgsV_len, List.length_take]; omega
  have e3 : rgsV (l.take (j + 1)) = rgsV (l.take j) ++ rgV l[j] := by
    rw [List.take_succ_eq_append_getElem h, rgsV, List.flatMap_append]
    simp [rgsV]
  rw [e1, e3, List.set_append_right _ _ (by omega), List.set_append_right _ _ (by omega), e2]
  simp [rgV]

theorem rgAt_own {w : World} {base : Nat} {e : TypeId} {g n c : Nat} {l : List Rg} (h : w.ownsRow base e 2 (.slice (some ⟨g, 0, none⟩) n c) n (rgsV l)) (hn : n = l.length) : RgAt w (some ⟨g, 0, none⟩) l := by
  subst hn
  refine .inr ⟨g, 0, rfl, (h.lt g rfl).2, fun i hi => ?_⟩
  obtain ⟨a, b⟩ := rgsV_get l i hi
  rw [Nat.zero_add, h.cellAt (i * 2) (by omega), h.cellAt (i * 2 + 1) (by omega)]
  exact ⟨a, b⟩

set_option maxRecDepth 100000 in
theorem eq_range (t : Int) (m : Int) (w : World) : Calls Try.prog 67 #[.agg #[.int .i64 t, .int .i64 m], .agg #[.int .i64 t, .int .i64 m]] w fun e w' => e = .returned (.bool true) ∧ w.grownBy w' none := by
  go_enter Try.func67, Try.ntmps67
  go_wp2
  go_ret
  exact ⟨rfl, grownBy_trans (World.grownBy_alloc _ _ _) (World.grownBy_alloc _ _ _)⟩

theorem infoRg : (Try.prog.info? 64).map (fun i => (i.zero, i.size, i.bytes)) = some (some (.agg #[.int .i64 0, .int .i64 0]), 2, 16) := by kernel_rfl

def EqRRel (w : World) (n : Nat) (i : Value) (wr : World) : Prop := ∃ j : Nat, j ≤ n ∧ i = .int .i64 j ∧ w.grownBy wr none

set_option maxRecDepth 100000 in
set_option maxHeartbeats 1000000 in
theorem eq_ranges (a b : Option Addr) (c d : Nat) (l : List Rg) (w : World) (h : RgAt w a l) (k : RgAt w b l) (hl : l.length ≤ 1048576) : Calls Try.prog 45 #[.slice a l.length c, .slice b l.length d] w fun e w' => e = .returned (.bool true) ∧ w.grownBy w' none := by
  have H := Lib.hid (And.intro h k)
  clear h k
  go_enter Try.func45, Try.ntmps45
  go_wp2_with fail
  go_loopw [5] (fun i wr => EqRRel w l.length i wr) (fun i _ => l.length - (intOf i).toNat)
  case atStart => exact ⟨0, Nat.zero_le _, rfl, World.grownBy.refl _ _⟩
  case round =>
    obtain ⟨j, hj, rfl, hg⟩ := hrel
    have HS := Lib.hid hg
    clear hg
    by_cases hlt : j < l.length
    · rcases (H.out.1.kept HS.out) with h0 | ⟨b1, off1, rfl, hb1, hc⟩
      · rw [h0] at hlt
        simp at hlt
      · rcases (H.out.2.kept HS.out) with h0 | ⟨b2, off2, rfl, hb2, hd⟩
        · rw [h0] at hlt
          simp at hlt
        · obtain ⟨c0, c1⟩ := hc j hlt
          obtain ⟨d0, d1⟩ := hd j hlt
          clear hc hd
          generalize l[j] = x at *
          obtain ⟨t, m⟩ := x
          have hlt' : (j : Int) < (l.length : Int) := by omega
          have hj0 : (0 : Int) ≤ (j : Int) := by omega
          have z0 := grownBy_trans HS.out (grownBy_drew (r := none))
          go_wp2_with fail
          go_region_held3 (fun w' => w'.cell? ⟨b1, off1 + j * 2, none⟩ = some (.int .i64 t) ∧ w'.cell? ⟨b1, off1 + j * 2 + 1, none⟩ = some (.int .i64 m) ∧ w'.cell? ⟨b2, off2 + j * 2, none⟩ = some (.int .i64 t) ∧ w'.cell? ⟨b2, off2 + j * 2 + 1, none⟩ = some (.int .i64 m) ∧ w.grownBy w' none) ((refine ⟨by first | assumption | (simp [*]; done), by first | assumption | (simp [*]; done), by first | assumption | (simp [*]; done), by first | assumption | (simp [*]; done), by assumption⟩))
            (first | (go_at_call 67; refine (eq_range _ _ _).mono ?_; rintro e w9 ⟨rfl, hg⟩; have q0 := hg.cell (a := ⟨b1, off1 + j * 2, none⟩) (v := .int .i64 t) (by first | assumption | (simp [*]; done)) (by simp); have q1 := hg.cell (a := ⟨b1, off1 + j * 2 + 1, none⟩) (v := .int .i64 m) (by first | assumption | (simp [*]; done)) (by simp); have q2 := hg.cell (a := ⟨b2, off2 + j * 2, none⟩) (v := .int .i64 t) (by first | assumption | (simp [*]; done)) (by simp); have q3 := hg.cell (a := ⟨b2, off2 + j * 2 + 1, none⟩) (v := .int .i64 m) (by first | assumption | (simp [*]; done)) (by simp); have q4 := grownBy_trans (a := w) (by assumption) hg))
          have HZ := Lib.hid (by assumption : w.grownBy w9 none)
          go_wp2_with fail
          go_roundw
          case rel => exact ⟨j + 1, hlt, by go_num, HZ.out⟩
          case measure => simp [intOf]; omega
    · obtain rfl : j = l.length := by omega
      go_wp2_with fail
      go_ret
      exact ⟨rfl, HS.out⟩

/-- A list out of what is known at each index. -/
theorem rgAt_of {w : World} {x : Addr} {l : List Rg} (h : ∀ i (hi : i < l.length), w.cell? (x.add (i * 2)) = some (.int .i64 (l[i]).1) ∧ w.cell? (x.add (i * 2 + 1)) = some (.int .i64 (l[i]).2)) : RgAt w (some x) l := by
  obtain ⟨b, off, spot⟩ := x
  by_cases h0 : l.length = 0
  · exact .inl (List.length_eq_zero_iff.mp h0)
  · have c0 := (h 0 (by omega)).1
    have hs : spot = none := by simpa [Addr.add] using World.cell?_spot c0
    subst hs
    have hb : b < w.heap.size := by
      have := World.block_lt_of_cell? w _ c0
      simpa [Addr.add] using this
    refine .inr ⟨b, off, rfl, hb, fun i hi => ?_⟩
    obtain ⟨ci, di⟩ := h i hi
    have e1 : (⟨b, off, none⟩ : Addr).add (i * 2) = ⟨b, off + i * 2, none⟩ := by
      by_cases e : i = 0
      · subst e; simp [Addr.add]
      · have e' : i * 2 ≠ 0 := by omega
        simp [Addr.add, e']
    have e2 : (⟨b, off, none⟩ : Addr).add (i * 2 + 1) = ⟨b, off + i * 2 + 1, none⟩ := by simp [Addr.add]; omega
    rw [e1] at ci
    rw [e2] at di
    exact ⟨ci, di⟩

/-- A list out of what is known at each index. -/
theorem list_of {α : Type} {P : Nat → α → Prop} : ∀ n : Nat, (∀ i, i < n → ∃ x, P i x) → ∃ l : List α, l.length = n ∧ ∀ i (h : i < l.length), P i l[i]
  | 0, _ => ⟨[], rfl, fun i h => by simp at h⟩
  | n + 1, h => by
    obtain ⟨l, hl, hp⟩ := list_of n (fun i hi => h i (by omega))
    obtain ⟨x, hx⟩ := h n (by omega)
    refine ⟨l ++ [x], by simp [hl], fun i hi => ?_⟩
    by_cases e : i < l.length
    · rw [List.getElem_append_left e]
      exact hp i e
    · have e2 : i = l.length := by simp at hi; omega
      subst e2
      rw [List.getElem_append_right (Nat.le_refl _)]
      simp only [Nat.sub_self, List.getElem_cons_zero]
      rw [hl]
      exact hx

set_option maxRecDepth 100000 in
theorem to_range (t : Int) (m : Int) (w : World) : Calls Try.prog 52 #[.agg #[.int .i64 t, .int .i64 m]] w fun e w' => e = .returned (.agg #[.int .i64 t, .int .i64 m]) ∧ w.grownBy w' none := by
  go_enter Try.func52, Try.ntmps52
  go_wp2
  exact bodyPost_ret (v := .agg #[.int .i64 t, .int .i64 m]) (by simp [results, Try.results52, go_sem]) rfl ⟨rfl, grownBy_trans (World.grownBy_alloc _ _ _) (grownBy_trans (World.grownBy_alloc _ _ _) (World.grownBy_alloc _ _ _))⟩

def ToRel (w : World) (l : List Rg) (M : List Value) (i : Value) (wr : World) : Prop :=
  ∃ j : Nat, j ≤ l.length ∧ i = .int .i64 j ∧ w.grownBy wr none ∧ wr.ownsRow w.heap.size 64 2 (.slice (some ⟨w.heap.size, 0, none⟩) l.length l.length) l.length (rgsV (l.take j) ++ M.drop (j * 2))

set_option maxRecDepth 100000 in
theorem sz_ranges (a : Option Addr) (c : Nat) (l : List Rg) (k : Int) (w : World) (hl : (l.length : Int) ≤ 9223372036854775807) (hk : k = 1048576) : Calls Try.prog 20 #[.slice a l.length c, .int .i64 k] w fun e w' => e = .returned (.int .i64 (if (l.length : Int) ≤ 1048576 then 1048576 - (l.length : Int) else -1)) ∧ w' = w := by
  subst hk
  by_cases h : (l.length : Int) ≤ 1048576
  · rw [if_pos h]
    go_enter Try.func20, Try.ntmps20
    go_wp2
    go_ret
    exact ⟨rfl, rfl⟩
  · rw [if_neg h]
    go_enter Try.func20, Try.ntmps20
    go_wp2
    go_ret
    exact ⟨rfl, rfl⟩

theorem pair_new (w : World) (x y : Value) (T : TypeId) (b : Nat) (hb : b = w.heap.size) : ∀ j u, [x, y][j]? = some u → (w.alloc (.cells #[x, y] T)).cell? ((⟨b, 0, none⟩ : Addr).add j) = some u := by
  subst hb
  intro j u hj
  match j, hj with
  | 0, hj => simp at hj; subst hj; simp [Addr.add]
  | 1, hj => simp at hj; subst hj; simp [Addr.add]

theorem grow_own {w a b : World} {C : Nat} {e : TypeId} {v : Value} {m s : Nat} {ys : List Value} (h : w.grownBy a none) (k : a.grownBy b v.ownBlock) (ho : a.ownsRow C e s v m ys) (hC : w.heap.size ≤ C) : w.grownBy b none := by
  cases hv : v.ownBlock with
  | none => rw [hv] at k; exact grownBy_trans h k
  | some g =>
    rw [hv] at k
    exact grownBy_new h k (Nat.le_trans hC (ho.lt g hv).1)

theorem own_kept {w w' : World} {B : Nat} {e : TypeId} {v : Value} {n s : Nat} {xs : List Value} (h : w.ownsRow B e s v n xs) (hg : w.grownBy w' none) : w'.ownsRow B e s v n xs := h.kept hg (by cases v.ownBlock <;> simp)

theorem own_apart2 {w a : World} {B C : Nat} {e e' : TypeId} {u v : Value} {n m s s' : Nat} {xs ys : List Value} (h : w.ownsRow B e s u n xs) (k : a.ownsRow C e' s' v m ys) (hC : w.heap.size ≤ C) : v.ownBlock = none ∨ v.ownBlock ≠ u.ownBlock := by
  cases hv : v.ownBlock with
  | none => exact .inl rfl
  | some g =>
    refine .inr fun e => ?_
    have h1 := (h.lt g e.symm).2
    have h2 := (k.lt g hv).1
    omega

theorem own_apart1 {w a : World} {B C : Nat} {e e' : TypeId} {u v : Value} {n m s s' : Nat} {xs ys : List Value} (h : w.ownsRow B e s u n xs) (k : a.ownsRow C e' s' v m ys) (hC : w.heap.size ≤ C) : u.ownBlock = none ∨ u.ownBlock ≠ v.ownBlock := by
  cases hu : u.ownBlock with
  | none => exact .inl rfl
  | some g =>
    refine .inr fun e => ?_
    have h1 := (h.lt g hu).2
    have h2 := (k.lt g e.symm).1
    omega

theorem own_base {w : World} {B B' : Nat} {e : TypeId} {v : Value} {n s : Nat} {xs : List Value} (h : w.ownsRow B e s v n xs) (hB : B' ≤ B) : w.ownsRow B' e s v n xs := by
  rcases h with ⟨h1, h2 | ⟨g, cap, cur, h3, h4, h5⟩⟩
  · exact ⟨h1, .inl h2⟩
  · exact ⟨h1, .inr ⟨g, cap, cur, h3, Nat.le_trans hB h4, h5⟩⟩

theorem own_slice {w : World} {base : Nat} {e : TypeId} {v : Value} {n s : Nat} {xs : List Value} (h : w.ownsRow base e s v n xs) : ∃ ao c, v = .slice ao n c := by
  rcases h.2 with ⟨hv, h0⟩ | ⟨g, cap, cur, hv, _⟩
  · exact ⟨none, 0, by rw [hv, h0]⟩
  · exact ⟨_, _, hv⟩

theorem grown_row_none {w a b : World} {C : Nat} {e : TypeId} {v : Value} {m s : Nat} {ys : List Value} (h : w.grownBy a none) (k : a.grownBy b v.ownBlock) (ho : a.ownsRow C e s v m ys) (hC : w.heap.size ≤ C) : w.grownBy b none := by
  cases hv : v.ownBlock with
  | none => rw [hv] at k; exact grownBy_trans h k
  | some g =>
    rw [hv] at k
    exact grownBy_new h k (Nat.le_trans hC (ho.lt g hv).1)

def HdRel (w : World) (n : Nat) (k0 : Int) (k i : Value) (wr : World) : Prop :=
  ∃ j : Nat, j ≤ n ∧ i = .int .i64 j ∧ k = .int .i64 (k0 + 2 * (j : Int)) ∧ w.grownBy wr none

def mkR (k0 : Int) (n : Nat) : List Rg := (List.range n).map fun (i : Nat) => (k0 + 2 * (i : Int), k0 + 1 + 2 * (i : Int))

theorem mkR_len (k0 : Int) (n : Nat) : (mkR k0 n).length = n := by simp [mkR]

theorem mkR_at (k0 : Int) (n j : Nat) (h : j < (mkR k0 n).length) : (mkR k0 n)[j] = (k0 + 2 * (j : Int), k0 + 1 + 2 * (j : Int)) := by simp [mkR]

def RkRel (w : World) (base g cap n : Nat) (k0 : Int) (l : List Rg) (k i : Value) (wr : World) : Prop :=
  ∃ j : Nat, j ≤ n ∧ i = .int .i64 j ∧ k = .int .i64 (k0 + 2 * (j : Int)) ∧ w.grownBy wr (some g) ∧ wr.ownsRow base 64 2 (.slice (some ⟨g, 0, none⟩) n cap) n (rgsV ((mkR k0 n).take j) ++ (rgsV l).drop (j * 2))

theorem rg_own {w : World} {base : Nat} {e : TypeId} {ao : Option Addr} {c : Nat} {l : List Rg} (h : w.ownsRow base e 2 (.slice ao l.length c) l.length (rgsV l)) : RgAt w ao l := by
  rcases h.2 with ⟨_, h0⟩ | ⟨g, cap', cur, hv, _⟩
  · exact .inl (List.length_eq_zero_iff.mp h0)
  · simp at hv
    obtain ⟨rfl, rfl⟩ := hv
    exact rgAt_own h rfl

theorem rg_mark {k0 : Int} {w : World} {base : Nat} {e : TypeId} {ao : Option Addr} {c n : Nat} (h : w.ownsRow base e 2 (.slice ao n c) n (rgsV (mkR k0 n))) : RgAt w ao (mkR k0 n) := by
  have hn := mkR_len k0 n
  rcases h.2 with ⟨_, h0⟩ | ⟨g, cap', cur, hv, _⟩
  · exact .inl (List.length_eq_zero_iff.mp (by omega))
  · simp at hv
    obtain ⟨rfl, rfl⟩ := hv
    exact rgAt_own h hn.symm

theorem cell_in {w : World} {a : Addr} {v : Value} (h : w.cell? a = some v) : a.block < w.heap.size := by
  rcases Nat.lt_or_ge a.block w.heap.size with h1 | h1
  · exact h1
  · simp [World.cell?, Array.getElem?_eq_none h1] at h

/-- Cells of one's own: what they hold. -/
structure Mine (w : World) (cs : List (Addr × Value)) (w' : World) : Prop where
  grown : w.grownBy w' none
  all : ∀ x ∈ cs, w'.cell? x.1 = some x.2 ∧ w'.frozen? x.1 = false ∧ w.heap.size ≤ x.1.block ∧ x.1.spot = none

theorem Mine.kept {w a b : World} {cs : List (Addr × Value)} (h : Mine w cs a) (hg : a.grownBy b none) : Mine w cs b := by
  refine ⟨grownBy_trans h.grown hg, fun x hx => ?_⟩
  obtain ⟨h1, h2, h3, h4⟩ := h.all x hx
  refine ⟨hg.cell h1 (by simp), ?_, h3, h4⟩
  rw [hg.frozen_far x.1 (cell_in h1) (by simp)]
  exact h2

theorem Mine.drew {w a : World} {cs : List (Addr × Value)} (h : Mine w cs a) : Mine w cs a.drew := h.kept grownBy_drew

theorem Mine.cell {w a : World} {cs : List (Addr × Value)} (h : Mine w cs a) (p : Addr) (v : Value) (hx : (p, v) ∈ cs) : a.cell? p = some v := (h.all _ hx).1

theorem Mine.free {w a : World} {cs : List (Addr × Value)} (h : Mine w cs a) (p : Addr) (v : Value) (hx : (p, v) ∈ cs) : a.frozen? p = false := (h.all _ hx).2.1

theorem Mine.set {w a : World} {cs : List (Addr × Value)} (h : Mine w cs a) (p : Addr) (v x : Value) (hx : (p, v) ∈ cs) : Mine w (cs.map fun y => (y.1, if p = y.1 then x else y.2)) (a.setCell p x) := by
  obtain ⟨B, o, s⟩ := p
  obtain ⟨h1, h2, h3, h4⟩ := h.all _ hx
  obtain rfl : s = none := h4
  refine ⟨grownBy_new h.grown (grownBy_set a B o x) h3, fun y hy => ?_⟩
  obtain ⟨z, hz, rfl⟩ := List.mem_map.mp hy
  obtain ⟨k1, k2, k3, k4⟩ := h.all z hz
  refine ⟨?_, by rw [World.frozen?_setCell]; exact k2, k3, k4⟩
  by_cases he : (⟨B, o, none⟩ : Addr) = z.1
  · rw [if_pos he]
    simp only
    rw [← he] at k1 ⊢
    exact World.cell?_setCell_same _ _ _ k1
  · rw [if_neg he]
    simp only
    rw [World.cell?_setCell_other _ _ _ _ he]
    exact k1

theorem alloc_size (w : World) (o : Obj) : (w.alloc o).heap.size = w.heap.size + 1 := by show (w.heap.push o).size = _; simp

theorem Mine.base {w a b : World} {cs : List (Addr × Value)} (h : Mine a cs b) (hg : w.grownBy a none) : Mine w cs b := by
  refine ⟨grownBy_trans hg h.grown, fun x hx => ?_⟩
  obtain ⟨h1, h2, h3, h4⟩ := h.all x hx
  exact ⟨h1, h2, Nat.le_trans hg.size h3, h4⟩

theorem Mine.left {w a : World} {cs ds : List (Addr × Value)} (h : Mine w (cs ++ ds) a) : Mine w cs a := ⟨h.grown, fun x hx => h.all x (List.mem_append_left _ hx)⟩

theorem Mine.right {w a : World} {cs ds : List (Addr × Value)} (h : Mine w (cs ++ ds) a) : Mine w ds a := ⟨h.grown, fun x hx => h.all x (List.mem_append_right _ hx)⟩

def hole (a b : Int) : List Rg := if a < b then [(a, b)] else []

theorem rgsV_snoc (hs : List Rg) (a b : Int) : rgsV (hs ++ [(a, b)]) = rgsV hs ++ [.int .i64 a, .int .i64 b] := by simp [rgsV, rgV]

theorem hole_len (a b : Int) : (hole a b).length ≤ 1 := by unfold hole; split <;> simp

theorem add_none (b off j : Nat) : (⟨b, off, none⟩ : Addr).add j = ⟨b, off + j, none⟩ := by
  by_cases e : j = 0
  · subst e; simp [Addr.add]
  · simp [Addr.add, e]

def TgPost (w : World) (l : List Rg) (e : Ending) (w' : World) : Prop :=
  e = .returned (.slice (some ⟨w.heap.size, 0, none⟩) l.length l.length) ∧ w.grownBy w' none ∧ w'.ownsRow w.heap.size 64 2 (.slice (some ⟨w.heap.size, 0, none⟩) l.length l.length) l.length (rgsV l)

set_option maxRecDepth 100000 in
set_option maxHeartbeats 1000000 in
theorem to_ranges (a : Option Addr) (c : Nat) (l : List Rg) (w : World) (h : RgAt w a l) (hl : l.length ≤ 1048576) : Calls Try.prog 33 #[.slice a l.length c] w (TgPost w l) := by
  obtain ⟨i0, hi, hz0, hz1, hz2⟩ := info_of infoRg
  have H := Lib.hid h
  clear h
  go_enter Try.func33, Try.ntmps33
  go_wp2_with (at_make; refine wpList_make_full _ rfl _ _ 34 rfl w.heap.size 64 i0 _ 2 Try.underlying34 hi hz0 hz1 _ _ _ _ l.length rfl rfl rfl rfl ?c1 ?c2 ?c3 ?_)
  case c1 => rw [hz2]; omega
  case c2 => unfold maxLen; omega
  case c3 => exact Nat.le_refl _
  intro w1 hown hg
  have HS := Lib.hid (And.intro hown hg)
  clear hown hg
  go_wp2_with fail
  go_loopw [4] (fun i wr => ToRel w l (madeCells #[.int .i64 0, .int .i64 0] (l.length * 2)).toList i wr) (fun i _ => l.length - (intOf i).toNat)
  case atStart => exact ⟨0, Nat.zero_le _, rfl, HS.out.2, by simpa [rgsV] using HS.out.1⟩
  case round =>
    obtain ⟨j, hj, rfl, hg, hown⟩ := hrel
    have HR := Lib.hid (And.intro hg hown)
    clear hg hown
    by_cases hlt : j < l.length
    · rcases (H.out.kept HR.out.1) with h0 | ⟨b, off, rfl, hb, hc⟩
      · rw [h0] at hlt
        simp at hlt
      · obtain ⟨c0, c1⟩ := hc j hlt
        clear hc
        have HN := Lib.hid (rgs_set l _ j hlt (by simp [size_madeCells] : (madeCells #[.int .i64 0, .int .i64 0] (l.length * 2)).toList.length = l.length * 2))
        generalize l[j] = x at *
        obtain ⟨t, m⟩ := x
        have hlt' : (j : Int) < (l.length : Int) := by omega
        go_wp2_with fail
        refine (to_range t m _).mono ?_
        rintro e w8 ⟨rfl, hg⟩
        have hown := HR.out.2.kept hg (by simp [Value.ownBlock])
        have hl2 : (rgsV (l.take j) ++ (madeCells #[.int .i64 0, .int .i64 0] (l.length * 2)).toList.drop (j * 2)).length = l.length * 2 := hown.1
        obtain ⟨y0, d0⟩ : ∃ y, w8.cell? ⟨w.heap.size, j * 2, none⟩ = some y := by
          rw [hown.cellAt (j * 2) (by omega)]
          exact ⟨_, List.getElem?_eq_getElem (by rw [hl2]; omega)⟩
        obtain ⟨y1, d1⟩ : ∃ y, w8.cell? ⟨w.heap.size, j * 2 + 1, none⟩ = some y := by
          rw [hown.cellAt (j * 2 + 1) (by omega)]
          exact ⟨_, List.getElem?_eq_getElem (by rw [hl2]; omega)⟩
        have f0 := hown.frozenAt (j * 2)
        have f1 := hown.frozenAt (j * 2 + 1)
        have hs1 := hown.stored (j * 2) (.int .i64 t)
        have f2 := hs1.1.frozenAt (j * 2 + 1)
        obtain ⟨y, d2⟩ : ∃ y, (w8.setCell ⟨w.heap.size, j * 2, none⟩ (.int .i64 t)).cell? ⟨w.heap.size, j * 2 + 1, none⟩ = some y := by
          rw [hs1.1.cellAt (j * 2 + 1) (by omega)]
          exact ⟨_, List.getElem?_eq_getElem (by rw [List.length_set, hl2]; omega)⟩
        have hs2 := hs1.1.stored (j * 2 + 1) (.int .i64 m)
        have hs3 := hs2.1
        have hne := HN.out
        try dsimp only at hne
        rw [hne] at hs3
        have HW := Lib.hid (And.intro hs3 (grownBy_new (grownBy_trans HR.out.1 hg) (grownBy_trans hs1.2 hs2.2) (Nat.le_refl _)))
        clear hg c0 c1 hown hl2 hs1 hs2 hs3 hne
        go_wp2_with fail
        go_roundw
        case rel => exact ⟨j + 1, hlt, by go_num, HW.out.2, HW.out.1⟩
        case measure => simp [intOf]; omega
    · obtain rfl : j = l.length := by omega
      have hown := HR.out.2
      rw [List.take_length, List.drop_eq_nil_of_le (by simp [size_madeCells]), List.append_nil] at hown
      have HW := Lib.hid hown
      clear hown
      go_wp2_with fail
      go_ret
      exact ⟨rfl, HR.out.1, HW.out⟩

end Go.Proofs.Yteffpcgmoegomaa
