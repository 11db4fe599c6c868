/- WdD -/
import Derived.Test.YtedhemllgpbheaaQ4
import Derived.Test.YtedhemllgpbheaaQ5
import Derived.Test.YtedhemllgpbheaaQ6
import Derived.Test.YtedhemllgpbheaaQ8
namespace Go.Proofs.Ytedhemllgpbheaa
open Go.RowKit
open P7 (Pk PkAt pcsOk prefL PcsP pcs_of pcs_yes pc1)

/-- So many bytes of the stream, from a place on. -/
def strL (f : Int) (k : Nat) : List UInt8 := (List.range k).map fun i => UInt8.ofNat (97 + (f.toNat + i) % 26)
theorem strL_len (f : Int) (k : Nat) : (strL f k).length = k := by simp [strL]
theorem strL_snoc (f : Int) (k : Nat) : strL f (k + 1) = strL f k ++ [UInt8.ofNat (97 + (f.toNat + k) % 26)] := by simp [strL, List.range_succ]

/-- All bytes of a range are in one piece. -/
def hadL (l : List Pk) (x : Rg) : Prop := ∃ p ∈ l, p.1 ≤ x.1 ∧ x.2 ≤ p.1 + (p.2.length : Int)
def hadAll (l : List Pk) (s : List Rg) : Prop := ∀ x ∈ s, hadL l x
def pieceW (n : Int) (p : Pk) : Prop := p.1 + (p.2.length : Int) ≤ n ∧ p.2 = strL p.1 p.2.length
def downW (n m : Int) (x : Rg) : Prop := 0 ≤ x.1 ∧ x.1 < x.2 ∧ x.2 ≤ n ∧ x.2 - x.1 ≤ m
def upW (l : List Pk) (x : No) : Prop := x.k = 2 ∧ x.ok ∧ x.f ≤ ((prefL l).length : Int) ∧ hadAll l x.l
def notesO (l : List No) : Prop := l.length ≤ 300 ∧ ∀ x ∈ l, x.ok
theorem notesO_iff (t : List Nt) : notesP t ↔ notesO (t.map Nt.o) := by simp [notesP, notesO]
def gotW (u n : Int) (sl : List Rg) (gl : List Pk) : Prop := PcsP gl ∧ u ≤ ((prefL gl).length : Int) ∧ (∀ p ∈ gl, pieceW n p) ∧ hadAll gl sl
def downsW (n m : Int) (dl : List Rg) : Prop := (∀ x ∈ dl, downW n m x) ∧ dl.length ≤ 60
def upsW (gl : List Pk) (ul : List No) : Prop := ul.length ≤ 60 ∧ ∀ x ∈ ul, upW gl x
/-- A right world. -/
def wdP (t : Int) (r : Rn) (u n : Int) (sl : List Rg) (gl : List Pk) (dl : List Rg) (ul nl : List No) : Prop :=
  (0 ≤ t ∧ t ≤ 3000) ∧ (rnOk r = true ∧ r.m ≤ 200) ∧ (bdP u n sl ∧ n ≤ t) ∧ gotW u n sl gl ∧ downsW n r.m dl ∧ upsW gl ul ∧ notesO nl
open Classical in
noncomputable def wdOk (t : Int) (r : Rn) (u n : Int) (sl : List Rg) (gl : List Pk) (dl : List Rg) (ul nl : List No) : Bool := decide (wdP t r u n sl gl dl ul nl)

/-- The rows of a world, in memory. -/
structure WdAt (w : World) (sa : Option Addr) (sl : List Rg) (ga : Option Addr) (gl : List Pk) (da : Option Addr) (dl : List Rg) (ua : Option Addr) (ul : List Nt) (na : Option Addr) (nl : List Nt) : Prop where
  s : RgAt w sa sl
  g : PkAt w ga gl
  d : RgAt w da dl
  u : NtAt w ua ul
  n : NtAt w na nl
theorem WdAt.kept {w w' : World} {sa : Option Addr} {sl : List Rg} {ga : Option Addr} {gl : List Pk} {da : Option Addr} {dl : List Rg} {ua : Option Addr} {ul : List Nt} {na : Option Addr} {nl : List Nt} (h : WdAt w sa sl ga gl da dl ua ul na nl) (hg : w.grownBy w' none) : WdAt w' sa sl ga gl da dl ua ul na nl :=
  ⟨h.s.kept hg, h.g.kept hg, h.d.kept hg, h.u.kept hg, h.n.kept hg⟩

theorem all_more {α : Type} {P : α → Prop} (l : List α) (j : Nat) (h : j < l.length) (ha : ∀ x ∈ l.take j, P x) (hx : P l[j]) : ∀ x ∈ l.take (j + 1), P x := by
  intro x hm
  rw [List.take_succ_eq_append_getElem h, List.mem_append, List.mem_singleton] at hm
  rcases hm with hm | rfl
  · exact ha x hm
  · exact hx
theorem all_not {α : Type} {P : α → Prop} (l : List α) (j : Nat) (h : j < l.length) (hx : ¬ P l[j]) : ¬ ∀ x ∈ l, P x := fun a => hx (a _ (List.getElem_mem h))
open Classical in
theorem ret_yes {p : Prop} (h : p) : (Ending.returned (.bool true)) = .returned (.bool (decide p)) := by rw [decide_eq_true h]
open Classical in
theorem ret_no {p : Prop} (h : ¬ p) : (Ending.returned (.bool false)) = .returned (.bool (decide p)) := by rw [decide_eq_false h]

theorem pk_cells {w : World} {a : Option Addr} {l : List Pk} (h : PkAt w a l) {k : Nat} (hk : k < l.length) : ∃ b off, a = some ⟨b, off, none⟩ ∧ w.cell? ⟨b, off + k * 2, none⟩ = some (.int .i64 (l[k]).1) ∧ w.cell? ⟨b, off + k * 2 + 1, none⟩ = some (.string ⟨(l[k]).2.toArray⟩) := by
  rcases h with h0 | ⟨b, off, rfl, _, hc⟩
  · rw [h0] at hk; simp at hk
  · exact ⟨b, off, rfl, (hc k hk).1, (hc k hk).2⟩
theorem rg_cells {w : World} {a : Option Addr} {l : List Rg} (h : RgAt w a l) {k : Nat} (hk : k < l.length) : ∃ b off, a = some ⟨b, off, none⟩ ∧ w.cell? ⟨b, off + k * 2, none⟩ = some (.int .i64 (l[k]).1) ∧ w.cell? ⟨b, off + k * 2 + 1, none⟩ = some (.int .i64 (l[k]).2) := by
  rcases h with h0 | ⟨b, off, rfl, _, hc⟩
  · rw [h0] at hk; simp at hk
  · exact ⟨b, off, rfl, (hc k hk).1, (hc k hk).2⟩
theorem nt_cells {w : World} {a : Option Addr} {l : List Nt} (h : NtAt w a l) {k : Nat} (hk : k < l.length) : ∃ b off, a = some ⟨b, off, none⟩ ∧ NtC w b (off + k * 4) l[k] ∧ RgAt w (l[k]).a (l[k]).l := by
  rcases h with h0 | ⟨b, off, rfl, _, hc⟩
  · rw [h0] at hk; simp at hk
  · exact ⟨b, off, rfl, (hc k hk).1, (hc k hk).2⟩

end Go.Proofs.Ytedhemllgpbheaa

