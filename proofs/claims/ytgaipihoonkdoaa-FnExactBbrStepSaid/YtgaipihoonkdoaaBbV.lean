/- States of pipes: boxes and rows side by side, as the law of a step has them. -/
import Derived.Test.YtgaipihoonkdoaaBbU
import Derived.Deep.RegionWith
import Derived.Deep.DeepCutAuto
namespace Go.Proofs.Ytgaipihoonkdoaa
open Go.RowKit

theorem gen_w {K : World → Prop} {P : World → Prop} {W : World} (h : P W) (f : ∀ V, P V → K V) : K W := f W h
theorem sets6 {W : World} {B : Nat} {t : TypeId} {x0 x1 x2 x3 x4 x5 : Value} (h : Bx W B t #[x0, x1, x2, x3, x4, x5]) (v0 v1 v2 v3 v4 v5 : Value) : Bx ((((((W.setCell ⟨B, 0, none⟩ v0).setCell ⟨B, 1, none⟩ v1).setCell ⟨B, 2, none⟩ v2).setCell ⟨B, 3, none⟩ v3).setCell ⟨B, 4, none⟩ v4).setCell ⟨B, 5, none⟩ v5) B t #[v0, v1, v2, v3, v4, v5] := by
  have h0 : Bx _ B t #[v0, x1, x2, x3, x4, x5] := h.s 0 v0
  have h1 : Bx _ B t #[v0, v1, x2, x3, x4, x5] := h0.s 1 v1
  have h2 : Bx _ B t #[v0, v1, v2, x3, x4, x5] := h1.s 2 v2
  have h3 : Bx _ B t #[v0, v1, v2, v3, x4, x5] := h2.s 3 v3
  have h4 : Bx _ B t #[v0, v1, v2, v3, v4, x5] := h3.s 4 v4
  have h5 : Bx _ B t #[v0, v1, v2, v3, v4, v5] := h4.s 5 v5
  exact h5
theorem gsets6 {w u : World} {X : Nat} {v0 v1 v2 v3 v4 v5 : Value} (h : w.grownBy u none) (hX : w.heap.size ≤ X) : w.grownBy ((((((u.setCell ⟨X, 0, none⟩ v0).setCell ⟨X, 1, none⟩ v1).setCell ⟨X, 2, none⟩ v2).setCell ⟨X, 3, none⟩ v3).setCell ⟨X, 4, none⟩ v4).setCell ⟨X, 5, none⟩ v5) none := gS (gS (gS (gS (gS (gS h hX _ _) hX _ _) hX _ _) hX _ _) hX _ _) hX _ _
theorem rsets6 (u : World) (X : Nat) (v0 v1 v2 v3 v4 v5 : Value) : u.grownBy ((((((u.setCell ⟨X, 0, none⟩ v0).setCell ⟨X, 1, none⟩ v1).setCell ⟨X, 2, none⟩ v2).setCell ⟨X, 3, none⟩ v3).setCell ⟨X, 4, none⟩ v4).setCell ⟨X, 5, none⟩ v5) (some X) :=
  grownBy_trans (grownBy_trans (grownBy_trans (grownBy_trans (grownBy_trans (grownBy_set u X 0 v0) (grownBy_set _ X 1 v1)) (grownBy_set _ X 2 v2)) (grownBy_set _ X 3 v3)) (grownBy_set _ X 4 v4)) (grownBy_set _ X 5 v5)
theorem own_ge {w : World} {C X : Nat} {e : TypeId} {v : Value} {m s : Nat} {ys : List Value} (k : w.ownsRow C e s v m ys) (hX : X < C) : v.ownBlock = none ∨ v.ownBlock ≠ some X := by
  cases hv : v.ownBlock with
  | none => exact .inl rfl
  | some g =>
    refine .inr fun e => ?_
    cases e
    have h2 := (k.lt X hv).1
    omega
theorem own_lt {w : World} {C X : Nat} {e : TypeId} {v : Value} {m s : Nat} {ys : List Value} (k : w.ownsRow C e s v m ys) (hX : w.heap.size ≤ X) : v.ownBlock = none ∨ v.ownBlock ≠ some X := by
  cases hv : v.ownBlock with
  | none => exact .inl rfl
  | some g =>
    refine .inr fun e => ?_
    cases e
    have h2 := (k.lt X hv).2
    omega
theorem bx_apart {W W' : World} {B : Nat} {t : TypeId} {xs : Array Value} {v : Value} (h : Bx W B t xs) (hg : W.grownBy W' v.ownBlock) (hne : v.ownBlock = none ∨ v.ownBlock ≠ some B) : Bx W' B t xs := by
  rcases hne with h0 | h0
  · rw [h0] at hg; exact h.keep hg
  · exact h.kept hg (fun e => h0 e.symm)
structure Two (w W : World) (xs : Array Value) (tx rx : Int) : Prop where
  g : w.grownBy W none
  b : Bx W w.heap.size 46 xs
  x : Bx W (w.heap.size + 1) 30 #[.int .i64 tx, .int .i64 rx]
theorem Two.keep {w W W' : World} {xs : Array Value} {tx rx : Int} (h : Two w W xs tx rx) (hg : W.grownBy W' none) : Two w W' xs tx rx := ⟨grownBy_trans h.g hg, h.b.keep hg, h.x.keep hg⟩
theorem two_new (w : World) (xs : Array Value) (tx rx : Int) : Two w ((w.alloc (.cells xs 46)).alloc (.cells #[.int .i64 tx, .int .i64 rx] 30)) xs tx rx := by
  have h1 := Bx.new w 46 xs
  have g1 := World.grownBy_alloc w (.cells xs 46) none
  have e1 : (w.alloc (.cells xs 46)).heap.size = w.heap.size + 1 := by simp
  generalize w.alloc (.cells xs 46) = w1 at *
  have h2 := Bx.new w1 30 #[.int .i64 tx, .int .i64 rx]
  rw [e1] at h2
  exact ⟨gA g1 _, h1.alloc _, h2⟩
/-- What a region of a step leaves: the result's box and row. -/
structure Res (w0 wx : World) (B : Nat) (a : Option Addr) (c : Nat) (P : Int) (l : List Rg) (R F S T : Int) : Prop where
  b : Bx wx B 39 (bbC P a l.length c R F S T)
  g : w0.grownBy wx none
  o : OwnRg wx w0.heap.size a c l
  ge : w0.heap.size ≤ B
  ne : (Value.slice a l.length c).ownBlock = none ∨ (Value.slice a l.length c).ownBlock ≠ some B
theorem res_new {w0 w3 : World} {a : Option Addr} {c : Nat} {P : Int} {l : List Rg} {R F S T : Int} {C B : Nat} {x0 x1 x2 x3 x4 x5 : Value} (hg : w0.grownBy w3 none) (hb : Bx w3 B 39 #[x0, x1, x2, x3, x4, x5]) (hB : w0.heap.size ≤ B) (ho : OwnRg w3 C a c l) (hC : w0.heap.size ≤ C) (hne : (Value.slice a l.length c).ownBlock = none ∨ (Value.slice a l.length c).ownBlock ≠ some B) :
    Res w0 ((((((w3.setCell ⟨B, 0, none⟩ (.int .i64 P)).setCell ⟨B, 1, none⟩ (.slice a l.length c)).setCell ⟨B, 2, none⟩ (.int .i64 R)).setCell ⟨B, 3, none⟩ (.int .i64 F)).setCell ⟨B, 4, none⟩ (.int .i64 S)).setCell ⟨B, 5, none⟩ (.int .i64 T)) B a c P l R F S T :=
  ⟨sets6 hb _ _ _ _ _ _, gsets6 hg hB, own_base (World.ownsRow.kept ho (rsets6 w3 B _ _ _ _ _ _) hne) hC, hB, hne⟩

/-- What stands beside a step: the model's result and the copy that was handed over. -/
structure Sx (w1 : World) (B5 C5 : Nat) (ys : Array Value) (a5 : Option Addr) (c5 : Nat) (l : List Rg) (BX CX : Nat) (zs : Array Value) (q : Nat) (l0 : List Rg) (W : World) : Prop where
  g : w1.grownBy W none
  b : Bx W B5 39 ys
  r : OwnRg W C5 a5 c5 l
  bx : Bx W BX 39 zs
  rx : OwnRg W CX (some ⟨q, 0, none⟩) l0.length l0
theorem Sx.keep {w1 : World} {B5 C5 : Nat} {ys : Array Value} {a5 : Option Addr} {c5 : Nat} {l : List Rg} {BX CX : Nat} {zs : Array Value} {q : Nat} {l0 : List Rg} {W W' : World} (h : Sx w1 B5 C5 ys a5 c5 l BX CX zs q l0 W) (hg : W.grownBy W' none) : Sx w1 B5 C5 ys a5 c5 l BX CX zs q l0 W' :=
  ⟨grownBy_trans h.g hg, h.b.keep hg, own_kept h.r hg, h.bx.keep hg, own_kept h.rx hg⟩
structure Sg (w1 : World) (B5 C5 : Nat) (ys : Array Value) (a5 : Option Addr) (c5 : Nat) (l : List Rg) (BG CG : Nat) (zs : Array Value) (v : Value) (k : Nat) (m : List Value) (W : World) : Prop where
  g : w1.grownBy W none
  b : Bx W B5 39 ys
  r : OwnRg W C5 a5 c5 l
  bg : Bx W BG 39 zs
  rg : W.ownsRow CG 33 2 v k m
theorem Sg.keep {w1 : World} {B5 C5 : Nat} {ys : Array Value} {a5 : Option Addr} {c5 : Nat} {l : List Rg} {BG CG : Nat} {zs : Array Value} {v : Value} {k : Nat} {m : List Value} {W W' : World} (h : Sg w1 B5 C5 ys a5 c5 l BG CG zs v k m W) (hg : W.grownBy W' none) : Sg w1 B5 C5 ys a5 c5 l BG CG zs v k m W' :=
  ⟨grownBy_trans h.g hg, h.b.keep hg, own_kept h.r hg, h.bg.keep hg, own_kept h.rg hg⟩

end Go.Proofs.Ytgaipihoonkdoaa
