/- The drawings of a piece and of pieces. -/
import Derived.Test.YtaigdimicnlfdaaPcAdS
import Derived.Lib.Strings
namespace Go.Proofs.Ytaigdimicnlfdaa
open Go.RowKit

theorem grown_some {a b : World} {r : Nat} (h : a.grownBy b none) : a.grownBy b (some r) := ⟨h.os, h.tape, h.output, h.size, fun k hk _ => h.block k hk (by simp)⟩

theorem grown_frozen {a b : World} {row : Option Nat} (hg : a.grownBy b row) {p : Addr} {v : Value} (h : a.cell? p = some v) (hne : some p.block ≠ row) {x : Bool} (hf : a.frozen? p = x) : b.frozen? p = x := by
  rw [World.frozen?_of_block (hg.block p.block (World.block_lt_of_cell? a p h) hne)]
  exact hf

theorem grown_other {a b c : World} {B r : Nat} (h : a.grownBy b (some B)) (k : b.grownBy c (some r)) (hr : a.heap.size ≤ r) : a.grownBy c (some B) :=
  ⟨k.os.trans h.os, k.tape.trans h.tape, k.output.trans h.output, Nat.le_trans h.size k.size, fun i hi hne => (k.block i (Nat.lt_of_lt_of_le hi h.size) (by simp; omega)).trans (h.block i hi hne)⟩

theorem RdOk.other2 {w w' : World} {r k : Nat} (h : RdOk w r) (hg : w.grownBy w' (some k)) (hne : some r ≠ some k) (hrk : r < k) : RdOk w' r := h.kept hg hne (fun i e => by cases e; exact hrk)

structure Two (w : World) (E : Nat) (x y : Value) : Prop where
  a : w.cell? ⟨E, 0, none⟩ = some x
  b : w.cell? ⟨E, 1, none⟩ = some y
  f : w.frozen? ⟨E, 0, none⟩ = false
  g : w.frozen? ⟨E, 1, none⟩ = false

theorem two_new (w : World) (x y : Value) (T : TypeId) : Two (w.alloc (.cells #[x, y] T)) w.heap.size x y := ⟨by go_simp, by go_simp, by go_simp, by go_simp⟩

theorem Two.kept {w w' : World} {E : Nat} {x y : Value} {r : Option Nat} (h : Two w E x y) (hg : w.grownBy w' r) (hne : some E ≠ r) : Two w' E x y :=
  ⟨hg.cell h.a hne, hg.cell h.b hne, grown_frozen hg h.a hne h.f, grown_frozen hg h.b hne h.g⟩

theorem ext_l (l : List UInt8) (i j : Nat) : ({ data := l.toArray } : ByteArray).extract i j = ⟨((l.take j).drop i).toArray⟩ := ba_of (by rw [Lib.extract_data]; simp [List.drop_take])

def PcDPost (w : World) (r : Nat) (e : Ending) (w' : World) : Prop :=
  ∃ (p : Int) (m : List UInt8), e = .returned (.agg #[.int .i64 p, .string ⟨m.toArray⟩]) ∧ Near (-1) 31 p ∧ 1 ≤ m.length ∧ m.length ≤ 8 ∧ w.grownBy w' (some r) ∧ RdOk w' r

def NearPk (x : Pk) : Prop := Near (-1) 31 x.1 ∧ 1 ≤ x.2.length ∧ x.2.length ≤ 8

/-- Pieces that are drawn: right, few and small. -/
def Small (l : List Pk) (n : Nat) : Prop := l.length ≤ n ∧ PcsP l ∧ ∀ x ∈ l, x.1 + (x.2.length : Int) ≤ 40

def PcsDPost (w : World) (r : Nat) (e : Ending) (w' : World) : Prop :=
  ∃ (l : List Pk) (v : Value), Small l 4 ∧ e = .returned v ∧ w.grownBy w' (some r) ∧ RdOk w' r ∧ w'.ownsRow w.heap.size 57 2 v l.length (pksV l)

def PcsDRel (w : World) (r : Nat) (v i : Value) (wr : World) : Prop :=
  ∃ (j : Nat) (l : List Pk), j + l.length ≤ 4 ∧ i = .int .i64 (j : Nat) ∧ PcsP l ∧ (∀ x ∈ l, x.1 + (x.2.length : Int) ≤ 40) ∧ w.grownBy wr (some r) ∧ RdOk wr r ∧ wr.ownsRow w.heap.size 57 2 v l.length (pksV l)

theorem pcsP_nil : PcsP [] := ⟨by simp, by simp, fun i h => absurd h (by simp)⟩

theorem merge_high {B : Int} : ∀ (l : List Pk) (x : Pk), x.1 + (x.2.length : Int) ≤ B → (∀ p ∈ l, p.1 + (p.2.length : Int) ≤ B) → Good l → x.2 ≠ [] → (∀ p ∈ l, x.1 ≤ p.1 + (p.2.length : Int)) → ∀ q ∈ mergeR l x, q.1 + (q.2.length : Int) ≤ B
  | [], x, hx, _, _, _, _, q, hq => by simp [mergeR] at hq; subst hq; exact hx
  | p :: l, x, hx, hl, hg, hn, hh, q, hq => by
    obtain ⟨gl, bl, np⟩ := good_cons hg
    rw [mergeR] at hq
    split at hq
    · rename_i hle
      have h1 := hh p (by simp)
      have hlen := over_len hle h1
      have lp := len_pos np
      have hp := hl p (by simp)
      have e1 : (overP p x).1 = min p.1 x.1 := rfl
      refine merge_high l (overP p x) (by rw [hlen, e1]; omega) (fun r hr => hl r (by simp [hr])) gl (fun e => by rw [e] at hlen; simp at hlen; omega) (fun r hr => by have := bl r hr; unfold gap at this; rw [e1]; omega) q hq
    · rcases List.mem_cons.mp hq with rfl | hq
      · exact hx
      · exact hl q hq

theorem with_high {B : Int} : ∀ (l : List Pk) (x : Pk), x.1 + (x.2.length : Int) ≤ B → (∀ p ∈ l, p.1 + (p.2.length : Int) ≤ B) → Good l → x.2 ≠ [] → ∀ q ∈ withL l x, q.1 + (q.2.length : Int) ≤ B
  | [], x, hx, _, _, _, q, hq => by simp [withL] at hq; subst hq; exact hx
  | p :: l, x, hx, hl, hg, hn, q, hq => by
    obtain ⟨gl, bl, np⟩ := good_cons hg
    rw [withL] at hq
    split at hq
    · rcases List.mem_cons.mp hq with rfl | hq
      · exact hl q (by simp)
      · exact with_high l x hx (fun r hr => hl r (by simp [hr])) gl hn q hq
    · rename_i hlt
      exact merge_high (p :: l) x hx hl hg hn (fun r hr => by
        rcases List.mem_cons.mp hr with rfl | hr
        · omega
        · have := bl r hr; unfold gap at this; omega) q hq

theorem add_small {l : List Pk} {x : Pk} (h : addOk l x = true) (hn : NearPk x) (hl : ∀ y ∈ l, y.1 + (y.2.length : Int) ≤ 40) : PcsP (withL l x) ∧ ∀ y ∈ withL l x, y.1 + (y.2.length : Int) ≤ 40 := by
  simp only [addOk, Bool.and_eq_true] at h
  obtain ⟨⟨h1, h2⟩, h3⟩ := h
  refine ⟨pcs_of h3, with_high l x ?_ hl (pcs_of h1).good ?_⟩
  · obtain ⟨p0, p1, p2, p3⟩ := pcIn_of h2
    obtain ⟨⟨_, hh⟩, hm1, hm2⟩ := hn
    rcases hh with hh | hh | hh <;> omega
  · intro e
    have := hn.2.1
    rw [e] at this
    simp at this

end Go.Proofs.Ytaigdimicnlfdaa
