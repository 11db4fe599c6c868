/- Boards: the drawing of a board. -/
import Derived.Test.YtedgfiagefhahaaBxB
import Derived.Test.YtedgfiagefhahaaBdA
namespace Go.Proofs.Ytedgfiagefhahaa
open Go.RowKit

/-- A board that is answered, whatever it is. -/
def BdAny (Q : Int → List Rg → Prop) (w : World) (e : Ending) (w' : World) : Prop :=
  ∃ (U N : Int) (L : List Rg) (D : Bool) (a : Option Addr) (c : Nat), e = .returned (.tuple #[bdV U N a L.length c, .bool D]) ∧ 0 ≤ U ∧ U ≤ 1000000000 ∧ (L.length ≤ 40 ∧ (Lit.int .i64 N).wf = true ∧ Q N L) ∧ w.grownBy w' none ∧ OwnRg w' w.heap.size a c L
theorem bd_any {Q : Int → List Rg → Prop} {w w' : World} {r : Int × Int × List Rg × Bool} {e : Ending} (hq : Q r.2.1 r.2.2.1) (hu : 0 ≤ r.1 ∧ r.1 ≤ 1000000000) (hl : r.2.2.1.length ≤ 40) (hn : 0 ≤ r.2.1 ∧ r.2.1 ≤ 1000000000) (h : BdPost w r e w') : BdAny Q w e w' := by
  obtain ⟨a, c, h1, h2, h3⟩ := h
  exact ⟨_, _, _, _, a, c, h1, hu.1, hu.2, ⟨hl, wf_small (by omega) (by omega), hq⟩, h2, h3⟩
theorem sentL_u (u n : Int) (l : List Rg) (k : Int) (h0 : 0 ≤ u) (h1 : u ≤ 1000000000) : 0 ≤ (sentL u n l k).1 ∧ (sentL u n l k).1 ≤ 1000000000 := by
  unfold sentL
  split
  · exact ⟨h0, h1⟩
  · exact ⟨by simp, by simp⟩
theorem ackL_u (u n : Int) (l : List Rg) (k : Int) : 0 ≤ (ackL u n l k).1 ∧ (ackL u n l k).1 ≤ 1000000000 := by
  unfold ackL
  split
  · rename_i h
    have hp := bd_of h.1
    have := hp.1
    have := hp.2.2.1
    exact ⟨by show 0 ≤ k; omega, by show k ≤ 1000000000; omega⟩
  · exact ⟨by simp, by simp⟩
theorem sackL_u (u n : Int) (l ms : List Rg) (h0 : 0 ≤ u) (h1 : u ≤ 1000000000) : 0 ≤ (sackL u n l ms).1 ∧ (sackL u n l ms).1 ≤ 1000000000 := by
  unfold sackL
  split
  · exact ⟨h0, h1⟩
  · exact ⟨by simp, by simp⟩
theorem sentL_n (u n : Int) (l : List Rg) (k : Int) : 0 ≤ (sentL u n l k).2.1 ∧ (sentL u n l k).2.1 ≤ 1000000000 := by
  unfold sentL
  split
  · rename_i h
    have hp := bd_of h.1
    have h1 := hp.1
    have h2 := hp.2.1
    exact ⟨by show 0 ≤ n + k; omega, by show n + k ≤ 1000000000; omega⟩
  · exact ⟨by simp, by simp⟩
theorem ackL_n (u n : Int) (l : List Rg) (k : Int) : 0 ≤ (ackL u n l k).2.1 ∧ (ackL u n l k).2.1 ≤ 1000000000 := by
  unfold ackL
  split
  · rename_i h
    have hp := bd_of h.1
    have h1 := hp.1
    have h2 := hp.2.1
    have h3 := hp.2.2.1
    exact ⟨by show 0 ≤ n; omega, by show n ≤ 1000000000; omega⟩
  · exact ⟨by simp, by simp⟩
theorem sackL_n (u n : Int) (l ms : List Rg) : 0 ≤ (sackL u n l ms).2.1 ∧ (sackL u n l ms).2.1 ≤ 1000000000 := by
  unfold sackL
  split
  · rename_i h
    have hp := bd_of h.1
    have h1 := hp.1
    have h2 := hp.2.1
    have h3 := hp.2.2.1
    exact ⟨by show 0 ≤ n; omega, by show n ≤ 1000000000; omega⟩
  · exact ⟨by simp, by simp⟩
/-- How far the ranges of a board reach that came by k steps. -/
def Lb (k : Nat) (n : Int) (l : List Rg) : Prop := 0 ≤ n ∧ n ≤ 19 + 10 * k ∧ l.length ≤ k ∧ ∀ x ∈ l, x.2 ≤ n
/-- How far the ranges of a drawn board reach. -/
def Fi (u n : Int) (l : List Rg) : Prop := l.length ≤ 5 ∧ (bdOk u n l = true → ∀ x ∈ l, x.2 ≤ 69)
theorem lb_no (k : Nat) : Lb k 0 [] := ⟨by omega, by omega, Nat.zero_le _, by simp⟩
theorem lb_fi {k : Nat} {u n : Int} {l : List Rg} (h : Lb k n l) (hk : k ≤ 5) : Fi u n l := ⟨by have := h.2.2.1; omega, fun _ x hx => by have := h.2.2.2 x hx; have := h.2.1; omega⟩
theorem lb_next {k : Nat} {u n x : Int} {l : List Rg} (h : Lb k n l) (hk : k ≤ 5) : Fi u x l := ⟨by have := h.2.2.1; omega, fun _ y hy => by have := h.2.2.2 y hy; have := h.2.1; omega⟩
theorem lb_to {k : Nat} {u n : Int} {l m : List Rg} (h : Lb k n l) (hk : k ≤ 5) (hm : m.length = l.length) : Fi u n m := ⟨by have := h.2.2.1; omega, fun hb y hy => by have := ((bd_of hb).2.2.2.2.1 y hy).2.2; have := h.2.1; omega⟩
theorem sentL_lb {k : Nat} {n : Int} {l : List Rg} (u m : Int) (h : Lb k n l) (hm : m ≤ 10) : Lb (k + 1) (sentL u n l m).2.1 (sentL u n l m).2.2.1 := by
  unfold sentL
  split
  · rename_i hc
    have := h.1
    have := h.2.1
    have := h.2.2.1
    exact ⟨by show 0 ≤ n + m; omega, by show n + m ≤ _; omega, by show l.length ≤ _; omega, fun x hx => by have := h.2.2.2 x hx; show x.2 ≤ n + m; omega⟩
  · exact lb_no _
theorem ackL_lb {k : Nat} {n : Int} {l : List Rg} (u m : Int) (h : Lb k n l) : Lb (k + 1) (ackL u n l m).2.1 (ackL u n l m).2.2.1 := by
  unfold ackL
  split
  · rename_i hc
    have h1 := bd_acked (bd_of hc.1) hc.2.1 hc.2.2
    have := h.1
    have := h.2.1
    have := h.2.2.1
    have := beyF_len m l
    exact ⟨by show 0 ≤ n; omega, by show n ≤ _; omega, by show (beyF m l).length ≤ _; omega, fun x hx => (h1.2.2.2.2.1 x hx).2.2⟩
  · exact lb_no _
theorem sackL_lb {k : Nat} {n : Int} {l : List Rg} (u : Int) (ms : List Rg) (h : Lb k n l) (hm : ms.length ≤ 1) : Lb (k + 1) (sackL u n l ms).2.1 (sackL u n l ms).2.2.1 := by
  unfold sackL
  split
  · rename_i hc
    have h1 := bd_of hc.2.2
    have := h.1
    have := h.2.1
    have := h.2.2.1
    have := sackF_len u n ms l
    exact ⟨by show 0 ≤ n; omega, by show n ≤ _; omega, by show (sackF u n l ms).length ≤ _; omega, fun x hx => (h1.2.2.2.2.1 x hx).2.2⟩
  · exact lb_no _
theorem sent_d {kk : Nat} (u n : Int) (a : Option Addr) (c : Nat) (l : List Rg) (k : Int) (w : World) (h : RowOk w a c l) (hl : l.length ≤ 40) (h0 : 0 ≤ u) (h1 : u ≤ 1000000000) (hk : k ≤ 10) (hb : Lb kk n l) : Calls Try.prog 11 #[bdV u n a l.length c, .int .i64 k] w (BdAny (Lb (kk + 1)) w) :=
  (sent_spec u n a c l k w h (by omega)).mono fun _ _ hh => bd_any (sentL_lb u k hb hk) (sentL_u u n l k h0 h1) (sentL_len u n l k) (sentL_n u n l k) hh
theorem ack_d {kk : Nat} (u n : Int) (a : Option Addr) (c : Nat) (l : List Rg) (k : Int) (w : World) (h : RowOk w a c l) (hl : l.length ≤ 40) (hb : Lb kk n l) : Calls Try.prog 14 #[bdV u n a l.length c, .int .i64 k] w (BdAny (Lb (kk + 1)) w) :=
  (ack_spec u n a c l k w h (by omega)).mono fun _ _ hh => bd_any (ackL_lb u k hb) (ackL_u u n l k) (ackL_len u n l k) (ackL_n u n l k) hh
theorem sack_d {kk : Nat} (u n : Int) (a : Option Addr) (c : Nat) (l : List Rg) (a2 : Option Addr) (c2 : Nat) (ms : List Rg) (m : Nat) (w : World) (h : RowOk w a c l) (hl : l.length ≤ 40) (h0 : 0 ≤ u) (h1 : u ≤ 1000000000) (hm : RgAt w a2 ms) (hml : ms.length = m) (hm2 : m ≤ 1) (hb : Lb kk n l) : Calls Try.prog 23 #[bdV u n a l.length c, .slice a2 m c2] w (BdAny (Lb (kk + 1)) w) := by
  subst hml
  exact (sack_spec u n a c l a2 c2 ms w h (by omega) hm (by omega)).mono fun _ _ hh => bd_any (sackL_lb u ms hb hm2) (sackL_u u n l ms h0 h1) (sackL_len u n l ms) (sackL_n u n l ms) hh

/-- Where a drawing of a board stands: its reader, its result's block, the board's own block and row. -/
structure BS (P : Int → List Rg → Prop) (w : World) (r E : Nat) (u n : Int) (a : Option Addr) (c : Nat) (l : List Rg) (W : World) : Prop where
  lr : r < w.heap.size
  le : w.heap.size < E
  g : w.grownBy W (some r)
  rd : RdOk W r
  res : Bx W w.heap.size 26 #[.int .i64 0, .int .i64 0, .slice none 0 0]
  box : Bx W E 26 #[.int .i64 u, .int .i64 n, .slice a l.length c]
  row : OwnRg W (w.heap.size + 1) a c l
  far : ∀ g, Value.ownBlock (.slice a l.length c) = some g → g ≠ E
  u0 : 0 ≤ u
  u1 : u ≤ 1000000000
  ll : l.length ≤ 40 ∧ (Lit.int .i64 n).wf = true ∧ P n l
theorem own_in {W : World} {B c : Nat} {a : Option Addr} {l : List Rg} (h : OwnRg W B a c l) : ∀ g, Value.ownBlock (.slice a l.length c) = some g → B ≤ g ∧ g < W.heap.size := fun g hg => h.lt g hg
theorem own_far {W W2 : World} {B c : Nat} {a : Option Addr} {l : List Rg} {row : Option Nat} (h : OwnRg W B a c l) (hg : W.grownBy W2 row) (hne : ∀ g, Value.ownBlock (.slice a l.length c) = some g → some g ≠ row) : OwnRg W2 B a c l := by
  refine h.kept hg ?_
  cases hv : Value.ownBlock (.slice a l.length c) with
  | none => exact .inl rfl
  | some g => exact .inr (hne g hv)
theorem BS.move {P : Int → List Rg → Prop} {w W W2 : World} {r E : Nat} {u n : Int} {a : Option Addr} {c : Nat} {l : List Rg} (k : BS P w r E u n a c l W) (hg : W.grownBy W2 (some r)) (hr : RdOk W2 r) : BS P w r E u n a c l W2 := by
  have h1 := k.lr
  have h2 := k.le
  exact ⟨k.lr, k.le, grownBy_trans k.g hg, hr, k.res.kept hg (by simp; omega), k.box.kept hg (by simp; omega), own_far k.row hg (fun g hv => by have := (own_in k.row g hv).1; simp; omega), k.far, k.u0, k.u1, k.ll⟩
theorem BS.keep {P : Int → List Rg → Prop} {w W W2 : World} {r E : Nat} {u n : Int} {a : Option Addr} {c : Nat} {l : List Rg} (k : BS P w r E u n a c l W) (hg : W.grownBy W2 none) : BS P w r E u n a c l W2 :=
  k.move (gE hg) (k.rd.kept hg (by simp) (by simp))
theorem BS.imp {P Q : Int → List Rg → Prop} {w W : World} {r E : Nat} {u n : Int} {a : Option Addr} {c : Nat} {l : List Rg} (k : BS P w r E u n a c l W) (h : Q n l) : BS Q w r E u n a c l W := ⟨k.lr, k.le, k.g, k.rd, k.res, k.box, k.row, k.far, k.u0, k.u1, ⟨k.ll.1, k.ll.2.1, h⟩⟩
/-- The same beside a block Z that is being written. -/
theorem BS.set {P : Int → List Rg → Prop} {w W : World} {r E : Nat} {u n : Int} {a : Option Addr} {c : Nat} {l : List Rg} (k : BS P w r E u n a c l W) {Z : Nat} (hZ : E < Z) (hf : ∀ g, Value.ownBlock (.slice a l.length c) = some g → g ≠ Z) (i : Nat) (v : Value) : BS P w r E u n a c l (W.setCell ⟨Z, i, none⟩ v) := by
  have h1 := k.lr
  have h2 := k.le
  have hg := grownBy_set W Z i v
  exact ⟨k.lr, k.le, gSr k.g (by omega) _ _, k.rd.kept hg (by simp; omega) (fun x e => by cases e; omega), k.res.other (by omega) _ _, k.box.other (by omega) _ _, own_far k.row hg (fun g hv => by simp; exact hf g hv), k.far, k.u0, k.u1, k.ll⟩
/-- The next board, in a block of its own. -/
structure NS (P Q : Int → List Rg → Prop) (w : World) (r E : Nat) (u n : Int) (a : Option Addr) (c : Nat) (l : List Rg) (Z : Nat) (U N : Int) (a2 : Option Addr) (c2 : Nat) (L : List Rg) (W : World) : Prop where
  b : BS P w r E u n a c l W
  lz : E < Z
  nz : ∀ g, Value.ownBlock (.slice a l.length c) = some g → g ≠ Z
  box : Bx W Z 26 #[.int .i64 U, .int .i64 N, .slice a2 L.length c2]
  row : OwnRg W (w.heap.size + 1) a2 c2 L
  far : ∀ g, Value.ownBlock (.slice a2 L.length c2) = some g → g ≠ E ∧ g ≠ Z
  u0 : 0 ≤ U
  u1 : U ≤ 1000000000
  ll : L.length ≤ 40 ∧ (Lit.int .i64 N).wf = true ∧ Q N L
theorem NS.new {P Q : Int → List Rg → Prop} {w W V : World} {r E : Nat} {u n : Int} {a : Option Addr} {c : Nat} {l : List Rg} {U N : Int} {a2 : Option Addr} {c2 : Nat} {L : List Rg} (k : BS P w r E u n a c l W) (hg : W.grownBy V none) (ho : OwnRg V W.heap.size a2 c2 L) (u0 : 0 ≤ U) (u1 : U ≤ 1000000000) (ll : L.length ≤ 40 ∧ (Lit.int .i64 N).wf = true ∧ Q N L) : NS P Q w r E u n a c l V.heap.size U N a2 c2 L (V.alloc (.cells #[.int .i64 U, .int .i64 N, .slice a2 L.length c2] 26)) := by
  have h1 := k.box.lt
  have h2 := hg.size
  have h3 := k.le
  have ha := World.grownBy_alloc V (.cells #[.int .i64 U, .int .i64 N, .slice a2 L.length c2] 26) none
  exact ⟨(k.keep hg).keep ha, by omega, fun g hv => by have := (own_in k.row g hv).2; omega, Bx.new _ _ _, own_base (own_kept ho ha) (by omega), fun g hv => by have := own_in ho g hv; omega, u0, u1, ll⟩
theorem NS.old {P Q : Int → List Rg → Prop} {w W V : World} {r E Z : Nat} {u n : Int} {a : Option Addr} {c : Nat} {l : List Rg} {U N : Int} {a2 : Option Addr} {c2 : Nat} {L : List Rg} {x0 x1 x2 : Value} (k : BS P w r E u n a c l W) (hg : W.grownBy V none) (ho : OwnRg V W.heap.size a2 c2 L) (hz : Bx V Z 26 #[x0, x1, x2]) (lz : E < Z) (nz : ∀ g, Value.ownBlock (.slice a l.length c) = some g → g ≠ Z) (zl : Z < W.heap.size) (u0 : 0 ≤ U) (u1 : U ≤ 1000000000) (ll : L.length ≤ 40 ∧ (Lit.int .i64 N).wf = true ∧ Q N L) : NS P Q w r E u n a c l Z U N a2 c2 L (((V.setCell ⟨Z, 0, none⟩ (.int .i64 U)).setCell ⟨Z, 1, none⟩ (.int .i64 N)).setCell ⟨Z, 2, none⟩ (.slice a2 L.length c2)) := by
  have h1 := k.box.lt
  have h2 := hg.size
  have h3 := k.le
  have hf : ∀ g, Value.ownBlock (.slice a2 L.length c2) = some g → g ≠ Z := fun g hv => by have := own_in ho g hv; omega
  have k2 := (((k.keep hg).set lz nz 0 (.int .i64 U)).set lz nz 1 (.int .i64 N)).set lz nz 2 (.slice a2 L.length c2)
  refine ⟨k2, lz, nz, set3 hz _ _ _, own_base (own_far (own_far (own_far ho (grownBy_set V Z 0 _) (fun g hv => by simp; exact hf g hv)) (grownBy_set _ Z 1 _) (fun g hv => by simp; exact hf g hv)) (grownBy_set _ Z 2 _) (fun g hv => by simp; exact hf g hv)) (by omega), fun g hv => ⟨by have := own_in ho g hv; omega, hf g hv⟩, u0, u1, ll⟩
theorem NS.move {P Q : Int → List Rg → Prop} {w W W2 : World} {r E Z : Nat} {u n : Int} {a : Option Addr} {c : Nat} {l : List Rg} {U N : Int} {a2 : Option Addr} {c2 : Nat} {L : List Rg} (k : NS P Q w r E u n a c l Z U N a2 c2 L W) (hg : W.grownBy W2 (some r)) (hr : RdOk W2 r) : NS P Q w r E u n a c l Z U N a2 c2 L W2 := by
  have h1 := k.b.lr
  have h2 := k.b.le
  have h3 := k.lz
  exact ⟨k.b.move hg hr, k.lz, k.nz, k.box.kept hg (by simp; omega), own_far k.row hg (fun g hv => by have := (own_in k.row g hv).1; simp; omega), k.far, k.u0, k.u1, k.ll⟩
/-- The next board taken over into the board's own block. -/
theorem NS.take {P Q : Int → List Rg → Prop} {w W : World} {r E Z : Nat} {u n : Int} {a : Option Addr} {c : Nat} {l : List Rg} {U N : Int} {a2 : Option Addr} {c2 : Nat} {L : List Rg} (k : NS P Q w r E u n a c l Z U N a2 c2 L W) : BS Q w r E U N a2 c2 L (((W.setCell ⟨E, 0, none⟩ (.int .i64 U)).setCell ⟨E, 1, none⟩ (.int .i64 N)).setCell ⟨E, 2, none⟩ (.slice a2 L.length c2)) := by
  have h1 := k.b.lr
  have h2 := k.b.le
  have hs := fun (V : World) (i : Nat) (v : Value) => grownBy_set V E i v
  have hrd := fun (V : World) (hr : RdOk V r) (i : Nat) (v : Value) => hr.kept (hs V i v) (by simp; omega) (fun x e => by cases e; omega)
  have hf : ∀ g, Value.ownBlock (.slice a2 L.length c2) = some g → g ≠ E := fun g hv => (k.far g hv).1
  exact ⟨k.b.lr, k.b.le, gSr (gSr (gSr k.b.g (by omega) _ _) (by omega) _ _) (by omega) _ _, hrd _ (hrd _ (hrd _ k.b.rd _ _) _ _) _ _, ((k.b.res.other (by omega) _ _).other (by omega) _ _).other (by omega) _ _, set3 k.b.box _ _ _, own_far (own_far (own_far k.row (hs _ _ _) (fun g hv => by simp; exact hf g hv)) (hs _ _ _) (fun g hv => by simp; exact hf g hv)) (hs _ _ _) (fun g hv => by simp; exact hf g hv), hf, k.u0, k.u1, k.ll⟩

end Go.Proofs.Ytedgfiagefhahaa
