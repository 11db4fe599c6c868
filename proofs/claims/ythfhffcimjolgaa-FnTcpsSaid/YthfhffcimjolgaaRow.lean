/- Rows of parts: what the program's lists of parts are made of. -/
import Derived.Test.YthfhffcimjolgaaPart
namespace Go.Proofs.Ythfhffcimjolgaa
open Go.RowKit

theorem grownBy_drew {a : World} {r : Option Nat} : a.grownBy a.drew r := grownBy_drewN 1

theorem info_of {T : TypeId} {z : Value} {s b : Nat} (h : (Try.prog.info? T).map (fun i => (i.zero, i.size, i.bytes)) = some (some z, s, b)) : ∃ i, Try.prog.info? T = some i ∧ i.zero = some z ∧ i.size = s ∧ i.bytes = b := by
  cases hi : Try.prog.info? T with
  | none => rw [hi] at h; cases h
  | some i =>
    rw [hi] at h
    simp at h
    exact ⟨i, rfl, h.1, h.2.1, h.2.2⟩

theorem infoPart : (Try.prog.info? 77).map (fun i => (i.zero, i.size, i.bytes)) = some (some .nilIface, 1, 16) := by kernel_rfl

def PartsPost (w : World) (ps : List Part) (e : Ending) (w' : World) : Prop :=
  ∃ b c : Nat, e = .returned (.slice (some ⟨b, 0, none⟩) ps.length c) ∧ w.heap.size ≤ b ∧ w.grownBy w' none ∧ ∀ i (h : i < ps.length), w'.cell? ⟨b, i, none⟩ = some ps[i].val

theorem heap_new (w : World) (o : Obj) : (w.alloc o).heap[w.heap.size]? = some o := by show (w.heap.push o)[w.heap.size]? = some o; simp

theorem grown_row_none {w a b : World} {C : Nat} {e : TypeId} {v : Value} {m s : Nat} {ys : List Value} (h : w.grownBy a none) (k : a.grownBy b v.ownBlock) (ho : a.ownsRow C e s v m ys) (hC : w.heap.size ≤ C) : w.grownBy b none := by
  cases hv : v.ownBlock with
  | none => rw [hv] at k; exact grownBy_trans h k
  | some g =>
    rw [hv] at k
    exact grownBy_new h k (Nat.le_trans hC (ho.lt g hv).1)

theorem row_new (w : World) (vs : Array Value) (T : TypeId) (n : Nat) (xs : List Value) (hn : vs.size ≤ maxLen) (h : vs.size = n) (hx : vs.toList = xs) : (w.alloc (.cells vs T)).ownsRow w.heap.size T 1 (.slice (some ⟨w.heap.size, 0, none⟩) n n) n xs := by
  subst h hx
  exact ⟨by simp, .inr ⟨w.heap.size, vs.size, vs, rfl, Nat.le_refl _, heap_new w (.cells vs T), Nat.le_refl _, hn, by simp, List.take_of_length_le (by simp)⟩⟩

theorem row_parts {w : World} {base : Nat} {T : TypeId} {v : Value} (ps : List Part) (h : w.ownsRow base T 1 v ps.length (ps.map Part.val)) (h0 : 0 < ps.length) :
    ∃ b c, v = .slice (some ⟨b, 0, none⟩) ps.length c ∧ base ≤ b ∧ ∀ i (h : i < ps.length), w.cell? ⟨b, i, none⟩ = some ps[i].val := by
  obtain ⟨_, ⟨_, h1⟩ | ⟨g, cap, cur, rfl, hb, hg, h2, h3, h4, h5⟩⟩ := h
  · omega
  · refine ⟨g, cap, rfl, hb, fun i hi => ?_⟩
    have hi' : i < cur.size := by omega
    have e : cur[i]? = some ps[i].val := by
      have k := congrArg (fun l : List Value => l[i]?) h5
      simp only [List.getElem?_take, List.getElem?_map] at k
      rw [if_pos (by omega), List.getElem?_eq_getElem hi] at k
      simpa using k
    simp only [World.cell?, hg]
    simpa using e

set_option maxRecDepth 100000 in
theorem cells_new (w : World) (b : Nat) (hb : b = w.heap.size) (cs : Array Value) (T : TypeId) (j : Nat) (u : Value) (h : cs.toList[j]? = some u) : (w.alloc (.cells cs T)).cell? (Addr.add ⟨b, 0, none⟩ j) = some u := by
  subst hb
  have e : ((⟨w.heap.size, 0, none⟩ : Addr).add j) = ⟨w.heap.size, j, none⟩ := by by_cases h0 : j = 0 <;> simp [Addr.add, h0]
  rw [e, World.cell?_alloc_mark]
  simpa using h

theorem put_as (L : List UInt8) (b c : Nat) (ps : List Part) (ol : List (List UInt8)) (w : World) (hL : ol.flatten = L) (hl : ol.length = ps.length) (hn : ps.length ≤ 100) (hm : ∀ l ∈ ol, l.length ≤ 1000)
    (hp : ∀ i (h : i < ps.length), w.cell? ⟨b, i, none⟩ = some ps[i].val) (ho : ∀ i (h : i < ps.length) (h' : i < ol.length), ps[i].out w ol[i]) :
    Calls Try.prog 21 #[.slice (some ⟨b, 0, none⟩) ps.length c] w (StrPost w L) := by
  subst hL
  exact put_parts b c ps ol w hl hn hm hp ho

end Go.Proofs.Ythfhffcimjolgaa
