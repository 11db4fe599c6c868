/- The program's reading of a head by a list of parts, where each part's place is new. -/
import Derived.Test.YthfhffcimjolgaaGetP
import Derived.Test.YthfhffcimjolgaaRow
import Derived.Deep.AppendLies
import Derived.Deep.RegionHeld
namespace Go.Proofs.Ythfhffcimjolgaa
open Go.RowKit

def Part.place : Part → Option Addr
  | .fix _ _ => none
  | .num a _ => some a
  | .txt a _ => some a
/-- What a cell holds when the parts are read. -/
def updL : List Part → List UInt8 → Addr → Value → Value
  | [], _, _, v => v
  | .fix _ sz :: ps, l, a, v => updL ps (l.drop sz.toNat) a v
  | .num b sz :: ps, l, a, v => updL ps (l.drop sz.toNat) a (if b = a then .int .i64 (getBe (l.take sz.toNat)) else v)
  | .txt b sz :: ps, l, a, v => updL ps (l.drop sz.toNat) a (if b = a then .string ⟨(l.take sz.toNat).toArray⟩ else v)

structure FreshP (w w2 : World) (b : Nat) (ps : List Part) (l : List UInt8) (j : Nat) (r : List UInt8) (w1 : World) : Prop where
  grown : w.grownBy w1 none
  size : w2.heap.size ≤ w1.heap.size
  parts : ∀ i (h : i < ps.length), w1.cell? ⟨b, i, none⟩ = some ps[i].val
  free : ∀ a v, w2.cell? a = some v → w2.frozen? a = false → w1.frozen? a = false
  cells : ∀ a v, w2.cell? a = some v → ∃ u, w1.cell? a = some u ∧ updL (ps.drop j) r a u = updL ps l a v

def PlacesAt (w w2 : World) (b : Nat) (ps : List Part) : Prop :=
  ∀ p ∈ ps, ∀ a, p.place = some a → (∃ v, w2.cell? a = some v) ∧ w2.frozen? a = false ∧ w.heap.size ≤ a.block ∧ a.block ≠ b ∧ a.spot = none

theorem cell_in {w : World} {a : Addr} {v : Value} (h : w.cell? a = some v) : a.block < w.heap.size := by
  rcases Nat.lt_or_ge a.block w.heap.size with h1 | h1
  · exact h1
  · simp [World.cell?, Array.getElem?_eq_none h1] at h

theorem fresh_grown {w w2 : World} {b : Nat} {ps : List Part} {l r : List UInt8} {j : Nat} {w1 w3 : World} (h : FreshP w w2 b ps l j r w1) (hg : w1.grownBy w3 none) : FreshP w w2 b ps l j r w3 := by
  refine ⟨grownBy_trans h.grown hg, Nat.le_trans h.size hg.size, fun i hi => hg.cell (h.parts i hi) (by simp), fun a v hv hz => ?_, fun a v hv => ?_⟩
  · obtain ⟨u, hu, _⟩ := h.cells a v hv
    rw [hg.frozen_far a (cell_in hu) (by simp)]
    exact h.free a v hv hz
  · obtain ⟨u, hu, hk⟩ := h.cells a v hv
    exact ⟨u, hg.cell hu (by simp), hk⟩

theorem fresh_set {w w2 : World} {b : Nat} {ps : List Part} {l r r' : List UInt8} {j j' : Nat} {w1 : World} (p : Addr) (x : Value) (h : FreshP w w2 b ps l j r w1) (hp : ∃ v, w2.cell? p = some v) (hb : w.heap.size ≤ p.block) (hn : p.block ≠ b) (hs : p.spot = none)
    (hk : ∀ a u, updL (ps.drop j') r' a (if p = a then x else u) = updL (ps.drop j) r a u) : FreshP w w2 b ps l j' r' (w1.setCell p x) := by
  obtain ⟨v0, hv0⟩ := hp
  obtain ⟨u0, hu0, _⟩ := h.cells p v0 hv0
  obtain ⟨B, o, s⟩ := p
  obtain rfl : s = none := hs
  refine ⟨grownBy_new h.grown (grownBy_set w1 B o x) hb, ?_, fun i hi => ?_, fun a v hv hz => ?_, fun a v hv => ?_⟩
  · exact Nat.le_trans h.size (grownBy_set w1 B o x).size
  · rw [World.cell?_setCell_far _ _ _ _ hn]
    exact h.parts i hi
  · rw [World.frozen?_setCell]
    exact h.free a v hv hz
  · obtain ⟨u, hu, hk2⟩ := h.cells a v hv
    by_cases he : (⟨B, o, none⟩ : Addr) = a
    · subst he
      refine ⟨x, World.cell?_setCell_same _ _ _ hu, ?_⟩
      rw [← hk2, ← hk _ u, if_pos rfl]
    · refine ⟨u, by rw [World.cell?_setCell_other _ _ _ _ he]; exact hu, ?_⟩
      rw [← hk2, ← hk _ u, if_neg he]

theorem upd_at (ps : List Part) (j : Nat) (h : j < ps.length) : ps.drop j = ps[j] :: ps.drop (j + 1) := List.drop_eq_getElem_cons h

theorem get_fresh (b c : Nat) (ps : List Part) (l : List UInt8) (w w2 : World) (hl : l.length ≤ 1000000000000) (hn : ps.length ≤ 100) (hz : ∀ p ∈ ps, 0 ≤ p.szI ∧ p.szI ≤ 1000)
    (hg : w.grownBy w2 none) (hc : ∀ i (h : i < ps.length), w2.cell? ⟨b, i, none⟩ = some ps[i].val) (hp : PlacesAt w w2 b ps) :
    Calls Try.prog 25 #[.string ⟨l.toArray⟩, .slice (some ⟨b, 0, none⟩) ps.length c] w2 (GetPost ps l (FreshP w w2 b ps l)) := by
  refine get_parts b c ps l w2 (FreshP w w2 b ps l) hl hn hz ⟨hg, Nat.le_refl _, hc, fun a v _ h => h, fun a v hv => ⟨v, hv, rfl⟩⟩ (fun j r w1 w3 h k => fresh_grown h k) (fun j r w1 h hP => hP.parts j h) ?_ ?_ ?_
  · intro j r w1 n sz hj he _ hP
    refine ⟨hP.grown, hP.size, hP.parts, hP.free, fun a v hv => ?_⟩
    obtain ⟨u, hu, hk⟩ := hP.cells a v hv
    refine ⟨u, hu, ?_⟩
    rw [← hk, upd_at ps j hj, he, updL]
  · intro j r w1 a sz hj he _ hP
    obtain ⟨⟨v, hv⟩, h2, h3, h4, h5⟩ := hp ps[j] (List.getElem_mem hj) a (by rw [he]; rfl)
    obtain ⟨u, hu, _⟩ := hP.cells a v hv
    refine ⟨⟨u, hu⟩, hP.free a v hv h2, fresh_set a _ hP ⟨v, hv⟩ h3 h4 h5 ?_⟩
    intro a' u'
    rw [upd_at ps j hj, he, updL]
  · intro j r w1 a sz hj he _ hP
    obtain ⟨⟨v, hv⟩, h2, h3, h4, h5⟩ := hp ps[j] (List.getElem_mem hj) a (by rw [he]; rfl)
    obtain ⟨u, hu, _⟩ := hP.cells a v hv
    refine ⟨⟨u, hu⟩, hP.free a v hv h2, fresh_set a _ hP ⟨v, hv⟩ h3 h4 h5 ?_⟩
    intro a' u'
    rw [upd_at ps j hj, he, updL]

/-- Cells of one's own: what they hold. -/
structure Mine (w : World) (cs : List (Addr × Value)) (w' : World) : Prop where
  grown : w.grownBy w' none
  all : ∀ x ∈ cs, w'.cell? x.1 = some x.2 ∧ w'.frozen? x.1 = false ∧ w.heap.size ≤ x.1.block ∧ x.1.spot = none

theorem Mine.kept {w a b : World} {cs : List (Addr × Value)} (h : Mine w cs a) (hg : a.grownBy b none) : Mine w cs b := by
  refine ⟨grownBy_trans h.grown hg, fun x hx => ?_⟩
  obtain ⟨h1, h2, h3, h4⟩ := h.all x hx
  refine ⟨hg.cell h1 (by simp), ?_, h3, h4⟩
  rw [hg.frozen_far x.1 (cell_in h1) (by simp)]
  exact h2
theorem Mine.drew {w a : World} {cs : List (Addr × Value)} (h : Mine w cs a) : Mine w cs a.drew := h.kept grownBy_drew
theorem Mine.cell {w a : World} {cs : List (Addr × Value)} (h : Mine w cs a) (p : Addr) (v : Value) (hx : (p, v) ∈ cs) : a.cell? p = some v := (h.all _ hx).1
theorem Mine.free {w a : World} {cs : List (Addr × Value)} (h : Mine w cs a) (p : Addr) (v : Value) (hx : (p, v) ∈ cs) : a.frozen? p = false := (h.all _ hx).2.1
theorem Mine.set {w a : World} {cs : List (Addr × Value)} (h : Mine w cs a) (p : Addr) (v x : Value) (hx : (p, v) ∈ cs) : Mine w (cs.map fun y => (y.1, if p = y.1 then x else y.2)) (a.setCell p x) := by
  obtain ⟨B, o, s⟩ := p
  obtain ⟨h1, h2, h3, h4⟩ := h.all _ hx
  obtain rfl : s = none := h4
  refine ⟨grownBy_new h.grown (grownBy_set a B o x) h3, fun y hy => ?_⟩
  obtain ⟨z, hz, rfl⟩ := List.mem_map.mp hy
  obtain ⟨k1, k2, k3, k4⟩ := h.all z hz
  refine ⟨?_, by rw [World.frozen?_setCell]; exact k2, k3, k4⟩
  by_cases he : (⟨B, o, none⟩ : Addr) = z.1
  · rw [if_pos he]
    simp only
    rw [← he] at k1 ⊢
    exact World.cell?_setCell_same _ _ _ k1
  · rw [if_neg he]
    simp only
    rw [World.cell?_setCell_other _ _ _ _ he]
    exact k1

theorem alloc_size (w : World) (o : Obj) : (w.alloc o).heap.size = w.heap.size + 1 := by show (w.heap.push o).size = _; simp
theorem Mine.base {w a b : World} {cs : List (Addr × Value)} (h : Mine a cs b) (hg : w.grownBy a none) : Mine w cs b := by
  refine ⟨grownBy_trans hg h.grown, fun x hx => ?_⟩
  obtain ⟨h1, h2, h3, h4⟩ := h.all x hx
  exact ⟨h1, h2, Nat.le_trans hg.size h3, h4⟩
theorem places_of {w w1 w2 : World} {cs : List (Addr × Value)} {b : Nat} {ps : List Part} (h : Mine w cs w1) (hb : w1.heap.size ≤ b) (hg : w1.grownBy w2 none) (hpl : ∀ p ∈ ps, ∀ a, p.place = some a → ∃ v, (a, v) ∈ cs) : PlacesAt w w2 b ps := by
  intro p hp a ha
  obtain ⟨v, hv⟩ := hpl p hp a ha
  obtain ⟨h1, h2, h3, h4⟩ := h.all _ hv
  obtain ⟨k1, k2, _, _⟩ := (h.kept hg).all _ hv
  exact ⟨⟨v, k1⟩, k2, h3, Nat.ne_of_lt (Nat.lt_of_lt_of_le (cell_in h1) hb), h4⟩

theorem fresh_mine {w w2 w3 : World} {cs : List (Addr × Value)} {b : Nat} {ps : List Part} {l r : List UInt8} (h : FreshP w w2 b ps l ps.length r w3) (hm : Mine w cs w2) : Mine w (cs.map fun x => (x.1, updL ps l x.1 x.2)) w3 := by
  refine ⟨h.grown, fun y hy => ?_⟩
  obtain ⟨z, hz, rfl⟩ := List.mem_map.mp hy
  obtain ⟨k1, k2, k3, k4⟩ := hm.all z hz
  obtain ⟨u, hu, hk⟩ := h.cells _ _ k1
  rw [List.drop_length, updL] at hk
  exact ⟨by rw [hu, hk], h.free _ _ k1 k2, k3, k4⟩
theorem fresh_some {w w2 w3 : World} {cs : List (Addr × Value)} {b j : Nat} {ps : List Part} {l r : List UInt8} (h : FreshP w w2 b ps l j r w3) (hm : Mine w cs w2) : ∃ g : Addr → Value, Mine w (cs.map fun x => (x.1, g x.1)) w3 := by
  refine ⟨fun a => (w3.cell? a).getD .nilIface, h.grown, fun y hy => ?_⟩
  obtain ⟨z, hz, rfl⟩ := List.mem_map.mp hy
  obtain ⟨k1, k2, k3, k4⟩ := hm.all z hz
  obtain ⟨u, hu, _⟩ := h.cells _ _ k1
  exact ⟨by simp [hu], h.free _ _ k1 k2, k3, k4⟩

theorem get_there (b c : Nat) (ps : List Part) (l r : List UInt8) (w w1 w2 : World) (cs : List (Addr × Value)) (he : getsL ps l = some r) (hl : l.length ≤ 1000000000000) (hn : ps.length ≤ 100) (hz : ∀ p ∈ ps, 0 ≤ p.szI ∧ p.szI ≤ 1000) (hpl : ∀ p ∈ ps, ∀ a, p.place = some a → ∃ v, (a, v) ∈ cs)
    (hm : Mine w cs w1) (hb : w1.heap.size ≤ b) (hg : w1.grownBy w2 none) (hc : ∀ i (h : i < ps.length), w2.cell? ⟨b, i, none⟩ = some ps[i].val) :
    Calls Try.prog 25 #[.string ⟨l.toArray⟩, .slice (some ⟨b, 0, none⟩) ps.length c] w2 fun e w' => e = .returned (.tuple #[.string ⟨r.toArray⟩, .bool true]) ∧ Mine w (cs.map fun x => (x.1, updL ps l x.1 x.2)) w' := by
  refine (get_fresh b c ps l w w2 hl hn hz (grownBy_trans hm.grown hg) hc (places_of hm hb hg hpl)).mono ?_
  intro e w' h
  unfold GetPost at h
  rw [he] at h
  exact ⟨h.1, fresh_mine h.2 (hm.kept hg)⟩
theorem get_not (b c : Nat) (ps : List Part) (l : List UInt8) (w w1 w2 : World) (cs : List (Addr × Value)) (he : getsL ps l = none) (hl : l.length ≤ 1000000000000) (hn : ps.length ≤ 100) (hz : ∀ p ∈ ps, 0 ≤ p.szI ∧ p.szI ≤ 1000) (hpl : ∀ p ∈ ps, ∀ a, p.place = some a → ∃ v, (a, v) ∈ cs)
    (hm : Mine w cs w1) (hb : w1.heap.size ≤ b) (hg : w1.grownBy w2 none) (hc : ∀ i (h : i < ps.length), w2.cell? ⟨b, i, none⟩ = some ps[i].val) :
    Calls Try.prog 25 #[.string ⟨l.toArray⟩, .slice (some ⟨b, 0, none⟩) ps.length c] w2 fun e w' => e = .returned (.tuple #[.string ⟨#[]⟩, .bool false]) ∧ ∃ g : Addr → Value, Mine w (cs.map fun x => (x.1, g x.1)) w' := by
  refine (get_fresh b c ps l w w2 hl hn hz (grownBy_trans hm.grown hg) hc (places_of hm hb hg hpl)).mono ?_
  intro e w' h
  unfold GetPost at h
  rw [he] at h
  obtain ⟨h1, j, r, h2⟩ := h
  exact ⟨h1, fresh_some h2 (hm.kept hg)⟩

end Go.Proofs.Ythfhffcimjolgaa
