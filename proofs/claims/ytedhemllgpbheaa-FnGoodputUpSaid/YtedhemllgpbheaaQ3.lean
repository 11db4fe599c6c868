/- Br -/
import Derived.Test.YtedhemllgpbheaaQ2
import Derived.Deep.RegionHeld3
import Derived.Laws.IdiomStrings
import Derived.Lib.AppendZeros
import Derived.Laws.AppendOwnNone
import Derived.StillTailTactics
import Derived.Deep.AppendLies
namespace Go.Proofs.Ytedhemllgpbheaa
open Go.RowKit

theorem grownBy_drew {a : World} {r : Option Nat} : a.grownBy a.drew r := ⟨rfl, rfl, rfl, Nat.le_refl _, fun _ _ _ => rfl⟩

theorem all_next {α : Type} {P : α → Prop} (l : List α) (j : Nat) (h : j < l.length) (ha : ∀ x ∈ l.take j, P x) (hx : P l[j]) : ∀ x ∈ l.take (j + 1), P x := by
  intro x hm
  rw [List.take_succ_eq_append_getElem h, List.mem_append, List.mem_singleton] at hm
  rcases hm with hm | rfl
  · exact ha x hm
  · exact hx

theorem info_of {T : TypeId} {z : Value} {s b : Nat} (h : (Try.prog.info? T).map (fun i => (i.zero, i.size, i.bytes)) = some (some z, s, b)) : ∃ i, Try.prog.info? T = some i ∧ i.zero = some z ∧ i.size = s ∧ i.bytes = b := by
  cases hi : Try.prog.info? T with
  | none => rw [hi] at h; cases h
  | some i =>
    rw [hi] at h
    simp at h
    exact ⟨i, rfl, h.1, h.2.1, h.2.2⟩

abbrev Rg := Int × Int

def RgAt (w : World) (a : Option Addr) (l : List Rg) : Prop :=
  l = [] ∨ ∃ b off, a = some ⟨b, off, none⟩ ∧ b < w.heap.size ∧ ∀ i (h : i < l.length), w.cell? ⟨b, off + i * 2, none⟩ = some (.int .i64 (l[i]).1) ∧ w.cell? ⟨b, off + i * 2 + 1, none⟩ = some (.int .i64 (l[i]).2)

theorem RgAt.kept {w w' : World} {a : Option Addr} {l : List Rg} (h : RgAt w a l) (hg : w.grownBy w' none) : RgAt w' a l := by
  rcases h with h | ⟨b, off, ha, hb, hc⟩
  · exact .inl h
  · exact .inr ⟨b, off, ha, Nat.lt_of_lt_of_le hb hg.size, fun i hi => ⟨hg.cell (hc i hi).1 (by simp), hg.cell (hc i hi).2 (by simp)⟩⟩

def rgV (p : Rg) : List Value := [.int .i64 p.1, .int .i64 p.2]

def rgsV (l : List Rg) : List Value := l.flatMap rgV

theorem rgsV_len : ∀ l : List Rg, (rgsV l).length = l.length * 2
  | [] => rfl
  | p :: l => by
    have := rgsV_len l
    simp only [rgsV, List.flatMap_cons, List.length_append, List.length_cons] at this ⊢
    rw [this]
    simp [rgV]
    omega

theorem rgsV_get : ∀ (l : List Rg) (i : Nat) (h : i < l.length), (rgsV l)[i * 2]? = some (.int .i64 (l[i]).1) ∧ (rgsV l)[i * 2 + 1]? = some (.int .i64 (l[i]).2)
  | p :: l, 0, _ => by simp [rgsV, rgV]
  | p :: l, i + 1, h => by
    have a := rgsV_get l i (by simpa using h)
    have e : rgsV (p :: l) = .int .i64 p.1 :: .int .i64 p.2 :: rgsV l := rfl
    rw [e, show (i + 1) * 2 = i * 2 + 1 + 1 from by omega]
    simpa using a

theorem rgAt_own {w : World} {base : Nat} {e : TypeId} {g n c : Nat} {l : List Rg} (h : w.ownsRow base e 2 (.slice (some ⟨g, 0, none⟩) n c) n (rgsV l)) (hn : n = l.length) : RgAt w (some ⟨g, 0, none⟩) l := by
  subst hn
  refine .inr ⟨g, 0, rfl, (h.lt g rfl).2, fun i hi => ?_⟩
  obtain ⟨a, b⟩ := rgsV_get l i hi
  rw [Nat.zero_add, h.cellAt (i * 2) (by omega), h.cellAt (i * 2 + 1) (by omega)]
  exact ⟨a, b⟩

theorem infoRg : (Try.prog.info? 44).map (fun i => (i.zero, i.size, i.bytes)) = some (some (.agg #[.int .i64 0, .int .i64 0]), 2, 16) := by kernel_rfl

theorem pair_new (w : World) (x y : Value) (T : TypeId) (b : Nat) (hb : b = w.heap.size) : ∀ j u, [x, y][j]? = some u → (w.alloc (.cells #[x, y] T)).cell? ((⟨b, 0, none⟩ : Addr).add j) = some u := by
  subst hb
  intro j u hj
  match j, hj with
  | 0, hj => simp at hj; subst hj; simp [Addr.add]
  | 1, hj => simp at hj; subst hj; simp [Addr.add]

theorem grow_own {w a b : World} {C : Nat} {e : TypeId} {v : Value} {m s : Nat} {ys : List Value} (h : w.grownBy a none) (k : a.grownBy b v.ownBlock) (ho : a.ownsRow C e s v m ys) (hC : w.heap.size ≤ C) : w.grownBy b none := by
  cases hv : v.ownBlock with
  | none => rw [hv] at k; exact grownBy_trans h k
  | some g =>
    rw [hv] at k
    exact grownBy_new h k (Nat.le_trans hC (ho.lt g hv).1)

theorem own_kept {w w' : World} {B : Nat} {e : TypeId} {v : Value} {n s : Nat} {xs : List Value} (h : w.ownsRow B e s v n xs) (hg : w.grownBy w' none) : w'.ownsRow B e s v n xs := h.kept hg (by cases v.ownBlock <;> simp)

theorem own_base {w : World} {B B' : Nat} {e : TypeId} {v : Value} {n s : Nat} {xs : List Value} (h : w.ownsRow B e s v n xs) (hB : B' ≤ B) : w.ownsRow B' e s v n xs := by
  rcases h with ⟨h1, h2 | ⟨g, cap, cur, h3, h4, h5⟩⟩
  · exact ⟨h1, .inl h2⟩
  · exact ⟨h1, .inr ⟨g, cap, cur, h3, Nat.le_trans hB h4, h5⟩⟩

theorem own_slice {w : World} {base : Nat} {e : TypeId} {v : Value} {n s : Nat} {xs : List Value} (h : w.ownsRow base e s v n xs) : ∃ ao c, v = .slice ao n c := by
  rcases h.2 with ⟨hv, h0⟩ | ⟨g, cap, cur, hv, _⟩
  · exact ⟨none, 0, by rw [hv, h0]⟩
  · exact ⟨_, _, hv⟩

theorem grown_row_none {w a b : World} {C : Nat} {e : TypeId} {v : Value} {m s : Nat} {ys : List Value} (h : w.grownBy a none) (k : a.grownBy b v.ownBlock) (ho : a.ownsRow C e s v m ys) (hC : w.heap.size ≤ C) : w.grownBy b none := by
  cases hv : v.ownBlock with
  | none => rw [hv] at k; exact grownBy_trans h k
  | some g =>
    rw [hv] at k
    exact grownBy_new h k (Nat.le_trans hC (ho.lt g hv).1)

theorem rg_own {w : World} {base : Nat} {e : TypeId} {ao : Option Addr} {c : Nat} {l : List Rg} (h : w.ownsRow base e 2 (.slice ao l.length c) l.length (rgsV l)) : RgAt w ao l := by
  rcases h.2 with ⟨_, h0⟩ | ⟨g, cap', cur, hv, _⟩
  · exact .inl (List.length_eq_zero_iff.mp h0)
  · simp at hv
    obtain ⟨rfl, rfl⟩ := hv
    exact rgAt_own h rfl

theorem cell_in {w : World} {a : Addr} {v : Value} (h : w.cell? a = some v) : a.block < w.heap.size := by
  rcases Nat.lt_or_ge a.block w.heap.size with h1 | h1
  · exact h1
  · simp [World.cell?, Array.getElem?_eq_none h1] at h

/-- Cells of one's own: what they hold. -/
structure Mine (w : World) (cs : List (Addr × Value)) (w' : World) : Prop where
  grown : w.grownBy w' none
  all : ∀ x ∈ cs, w'.cell? x.1 = some x.2 ∧ w'.frozen? x.1 = false ∧ w.heap.size ≤ x.1.block ∧ x.1.spot = none

theorem Mine.kept {w a b : World} {cs : List (Addr × Value)} (h : Mine w cs a) (hg : a.grownBy b none) : Mine w cs b := by
  refine ⟨grownBy_trans h.grown hg, fun x hx => ?_⟩
  obtain ⟨h1, h2, h3, h4⟩ := h.all x hx
  refine ⟨hg.cell h1 (by simp), ?_, h3, h4⟩
  rw [hg.frozen_far x.1 (cell_in h1) (by simp)]
  exact h2

theorem Mine.drew {w a : World} {cs : List (Addr × Value)} (h : Mine w cs a) : Mine w cs a.drew := h.kept grownBy_drew

theorem Mine.cell {w a : World} {cs : List (Addr × Value)} (h : Mine w cs a) (p : Addr) (v : Value) (hx : (p, v) ∈ cs) : a.cell? p = some v := (h.all _ hx).1

theorem Mine.free {w a : World} {cs : List (Addr × Value)} (h : Mine w cs a) (p : Addr) (v : Value) (hx : (p, v) ∈ cs) : a.frozen? p = false := (h.all _ hx).2.1

theorem Mine.set {w a : World} {cs : List (Addr × Value)} (h : Mine w cs a) (p : Addr) (v x : Value) (hx : (p, v) ∈ cs) : Mine w (cs.map fun y => (y.1, if p = y.1 then x else y.2)) (a.setCell p x) := by
  obtain ⟨B, o, s⟩ := p
  obtain ⟨h1, h2, h3, h4⟩ := h.all _ hx
  obtain rfl : s = none := h4
  refine ⟨grownBy_new h.grown (grownBy_set a B o x) h3, fun y hy => ?_⟩
  obtain ⟨z, hz, rfl⟩ := List.mem_map.mp hy
  obtain ⟨k1, k2, k3, k4⟩ := h.all z hz
  refine ⟨?_, by rw [World.frozen?_setCell]; exact k2, k3, k4⟩
  by_cases he : (⟨B, o, none⟩ : Addr) = z.1
  · rw [if_pos he]
    simp only
    rw [← he] at k1 ⊢
    exact World.cell?_setCell_same _ _ _ k1
  · rw [if_neg he]
    simp only
    rw [World.cell?_setCell_other _ _ _ _ he]
    exact k1

theorem alloc_size (w : World) (o : Obj) : (w.alloc o).heap.size = w.heap.size + 1 := by show (w.heap.push o).size = _; simp

theorem Mine.base {w a b : World} {cs : List (Addr × Value)} (h : Mine a cs b) (hg : w.grownBy a none) : Mine w cs b := by
  refine ⟨grownBy_trans hg h.grown, fun x hx => ?_⟩
  obtain ⟨h1, h2, h3, h4⟩ := h.all x hx
  exact ⟨h1, h2, Nat.le_trans hg.size h3, h4⟩

theorem Mine.left {w a : World} {cs ds : List (Addr × Value)} (h : Mine w (cs ++ ds) a) : Mine w cs a := ⟨h.grown, fun x hx => h.all x (List.mem_append_left _ hx)⟩

theorem Mine.right {w a : World} {cs ds : List (Addr × Value)} (h : Mine w (cs ++ ds) a) : Mine w ds a := ⟨h.grown, fun x hx => h.all x (List.mem_append_right _ hx)⟩

def hole (a b : Int) : List Rg := if a < b then [(a, b)] else []

theorem rgsV_snoc (hs : List Rg) (a b : Int) : rgsV (hs ++ [(a, b)]) = rgsV hs ++ [.int .i64 a, .int .i64 b] := by simp [rgsV, rgV]

theorem hole_len (a b : Int) : (hole a b).length ≤ 1 := by unfold hole; split <;> simp

theorem add_none (b off j : Nat) : (⟨b, off, none⟩ : Addr).add j = ⟨b, off + j, none⟩ := by
  by_cases e : j = 0
  · subst e; simp [Addr.add]
  · simp [Addr.add, e]

end Go.Proofs.Ytedhemllgpbheaa

