/- The reader of drawn bytes: each of its steps answers a number in its range and writes nothing but the reader's own block. -/
import Derived.Test.YtdlegnbjcgceeaaSeq
import Derived.Deep.QuietTactic
import Derived.BigQuiet
import Derived.Outline
import Derived.Below
import Derived.OwnWalk
import Derived.WalkSpells
import Derived.OpenShut
import Derived.LoopTactic
import Derived.IntWalk
namespace Go.Proofs.Ytdlegnbjcgceeaa
open Go.RowKit

/-- The bytes that the reader goes through: none, or a row of cells, in a block ahead of r. -/
def CodeAt (w : World) (a : Option Addr) (n r : Nat) : Prop :=
  n = 0 ∨ ∃ b off, a = some ⟨b, off, none⟩ ∧ b < r ∧ b < w.heap.size ∧ ∀ i, i < n → ∃ v : Int, 0 ≤ v ∧ v ≤ 255 ∧ w.cell? ⟨b, off + i, none⟩ = some (.int .u8 v)

/-- A reader lies in block r. -/
def RdOk (w : World) (r : Nat) : Prop :=
  ∃ a n c p, w.cell? ⟨r, 0, none⟩ = some (.slice a n c) ∧ w.cell? ⟨r, 1, none⟩ = some (.int .i64 (p : Nat)) ∧ w.frozen? ⟨r, 1, none⟩ = false ∧ p ≤ n ∧ n ≤ maxLen ∧ r < w.heap.size ∧ CodeAt w a n r

theorem grownBy_trans {a b c : World} {r : Option Nat} (h : a.grownBy b r) (k : b.grownBy c r) : a.grownBy c r :=
  ⟨k.os.trans h.os, k.tape.trans h.tape, k.output.trans h.output, Nat.le_trans h.size k.size, fun i hi hne => (k.block i (Nat.lt_of_lt_of_le hi h.size) hne).trans (h.block i hi hne)⟩
theorem grownBy_drewN {a : World} {r : Option Nat} (n : Nat) : a.grownBy (a.drewN n) r := ⟨rfl, rfl, rfl, Nat.le_refl _, fun _ _ _ => rfl⟩
theorem grownBy_set (w : World) (b o : Nat) (v : Value) : w.grownBy (w.setCell ⟨b, o, none⟩ v) (some b) :=
  ⟨rfl, rfl, rfl, by simp [World.setCell], fun k _ hne => Below.heap_setCell _ _ _ _ (fun e => hne (by rw [e]))⟩
theorem below_grown {a b : World} {r B : Nat} (h : a.grownBy b (some r)) (hB : B ≤ r) (hs : B ≤ a.heap.size) : Below B a b :=
  (Below.refl B a).grown h hs (fun k e => by cases e; exact hB)

theorem CodeAt.kept {w w' : World} {a : Option Addr} {n r : Nat} (h : CodeAt w a n r) (hg : w.grownBy w' (some r)) : CodeAt w' a n r := by
  rcases h with h | ⟨b, off, ha, hne, hlt, hc⟩
  · exact .inl h
  · exact .inr ⟨b, off, ha, hne, Nat.lt_of_lt_of_le hlt hg.size, fun i hi => let ⟨v, h0, h1, h2⟩ := hc i hi; ⟨v, h0, h1, hg.cell h2 (by simp; omega)⟩⟩

def NextPost (w : World) (r : Nat) (lo hi : Int) (e : Ending) (w' : World) : Prop :=
  ∃ v : Int, lo ≤ v ∧ v ≤ hi ∧ e = .returned (.int .i64 v) ∧ w.grownBy w' (some r) ∧ RdOk w' r

def OncePost (w : World) (r : Nat) (e : Ending) (w' : World) : Prop :=
  ∃ b : Bool, e = .returned (.bool b) ∧ w.grownBy w' (some r) ∧ RdOk w' r

def WordRel (w : World) (r : Nat) (x i : Value) (wr : World) : Prop :=
  ∃ (k : Nat) (u : Int), k ≤ 8 ∧ i = .int .i64 k ∧ x = .int .u64 u ∧ (Lit.int .u64 u).wf = true ∧ w.grownBy wr (some r) ∧ RdOk wr r

def WordPost (w : World) (r : Nat) (e : Ending) (w' : World) : Prop :=
  ∃ v : Int, (Lit.int .u64 v).wf = true ∧ e = .returned (.int .u64 v) ∧ w.grownBy w' (some r) ∧ RdOk w' r

def NumPost (w : World) (r : Nat) (e : Ending) (w' : World) : Prop :=
  ∃ v : Int, (Lit.int .i64 v).wf = true ∧ e = .returned (.int .i64 v) ∧ w.grownBy w' (some r) ∧ RdOk w' r

theorem wf_small {v : Int} (h0 : -1000000000000000 ≤ v) (h1 : v ≤ 1000000000000000) : (Lit.int .i64 v).wf = true := by
  simp [Lit.wf, IntKind.min, IntKind.max, IntKind.signed, IntKind.bits]; omega

theorem rem_bd (u d : Int) (hd : 0 < d) : 0 ≤ u % d ∧ u % d < d := ⟨Int.emod_nonneg _ (by omega), Int.emod_lt_of_pos _ hd⟩
theorem wrap_small {v : Int} (h0 : -4000000000000000 ≤ v) (h1 : v ≤ 4000000000000000) : wrap64 v = v := IntWalk.wrap64_in v ⟨by omega, by omega⟩

theorem RdOk.kept {w w' : World} {r : Nat} {row : Option Nat} (h : RdOk w r) (hg : w.grownBy w' row) (hne : some r ≠ row) (hold : ∀ k, row = some k → r < k) : RdOk w' r := by
  obtain ⟨a, n, c, p, h0, h1, hf, hp, hn, hr, hc⟩ := h
  refine ⟨a, n, c, p, hg.cell h0 hne, hg.cell h1 hne, ?_, hp, hn, Nat.lt_of_lt_of_le hr hg.size, ?_⟩
  · rw [World.frozen?_of_block (hg.block r hr hne)]; exact hf
  · rcases hc with h | ⟨b, off, ha, hne', hlt, hc⟩
    · exact .inl h
    · refine .inr ⟨b, off, ha, hne', Nat.lt_of_lt_of_le hlt hg.size, fun i hi => ?_⟩
      obtain ⟨v, v0, v1, hv⟩ := hc i hi
      exact ⟨v, v0, v1, hg.cell hv (fun e => by have := hold b e.symm; omega)⟩

theorem RdOk.lt {w : World} {r : Nat} (h : RdOk w r) : r < w.heap.size := by
  obtain ⟨a, n, c, p, h0, h1, hf, hp, hn, hr, hc⟩ := h
  exact hr

theorem RdOk.alloc {w : World} {r : Nat} (h : RdOk w r) (o : Obj) : RdOk (w.alloc o) r := h.kept (World.grownBy_alloc w o none) (by simp) (by simp)

theorem NextPost.num {w : World} {r : Nat} {a b : Int} (ha : -1000000000000000 ≤ a) (hb : b ≤ 1000000000000000) {e : Ending} {w' : World} (h : NextPost w r a b e w') : NumPost w r e w' := by
  obtain ⟨v, v0, v1, he, hg, hr⟩ := h
  exact ⟨v, wf_small (by omega) (by omega), he, hg, hr⟩

/-- A number of a range, or one far off. -/
def Near (lo hi v : Int) : Prop := (Lit.int .i64 v).wf = true ∧ (lo ≤ v ∧ v ≤ hi ∨ v ≤ -1000000000000000000 ∨ 1000000000000000000 ≤ v)
theorem near_mk {lo hi v : Int} (h0 : lo ≤ v) (h1 : v ≤ hi) (hl : -1000000000000000 ≤ lo) (hh : hi ≤ 1000000000000000) : Near lo hi v := ⟨wf_small (by omega) (by omega), .inl ⟨h0, h1⟩⟩
theorem Near.mono {lo hi lo' hi' v : Int} (h : Near lo hi v) (h0 : lo' ≤ lo) (h1 : hi ≤ hi') : Near lo' hi' v := by
  obtain ⟨hw, h⟩ := h
  exact ⟨hw, by omega⟩
def OffPost (w : World) (r : Nat) (lo hi : Int) (e : Ending) (w' : World) : Prop :=
  ∃ v : Int, Near lo hi v ∧ e = .returned (.int .i64 v) ∧ w.grownBy w' (some r) ∧ RdOk w' r

theorem four_cells (w : World) (x0 x1 x2 x3 : Int) (T : TypeId) (lo hi : Int) (h0 : Near lo hi x0) (h1 : Near lo hi x1) (h2 : Near lo hi x2) (h3 : Near lo hi x3) (k : Nat) (hk : k < 4) :
    ∃ z : Int, Near lo hi z ∧ (w.alloc (.cells #[.int .i64 x0, .int .i64 x1, .int .i64 x2, .int .i64 x3] T)).cell? ⟨w.heap.size, k, none⟩ = some (.int .i64 z) := by
  have : k = 0 ∨ k = 1 ∨ k = 2 ∨ k = 3 := by omega
  rcases this with rfl | rfl | rfl | rfl
  · exact ⟨x0, h0, by go_simp⟩
  · exact ⟨x1, h1, by go_simp⟩
  · exact ⟨x2, h2, by go_simp⟩
  · exact ⟨x3, h3, by go_simp⟩

end Go.Proofs.Ytdlegnbjcgceeaa
