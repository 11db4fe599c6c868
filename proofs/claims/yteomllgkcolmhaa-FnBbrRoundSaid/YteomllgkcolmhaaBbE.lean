/- The drawing of a state of a pipe. -/
import Derived.Test.YteomllgkcolmhaaBbU
import Derived.Test.YteomllgkcolmhaaBbP
import Derived.Deep.RegionWith
import Derived.Deep.DeepCutAuto
namespace Go.Proofs.Yteomllgkcolmhaa
open Go.RowKit

theorem gen_v {K : World → Prop} {P : World → Prop} {W : World} (h : P W) (f : ∀ V, P V → K V) : K W := f W h

theorem set6 {W : World} {B : Nat} {t : TypeId} {x0 x1 x2 x3 x4 x5 : Value} (h : Bx W B t #[x0, x1, x2, x3, x4, x5]) (v0 v1 v2 v3 v4 v5 : Value) : Bx ((((((W.setCell ⟨B, 0, none⟩ v0).setCell ⟨B, 1, none⟩ v1).setCell ⟨B, 2, none⟩ v2).setCell ⟨B, 3, none⟩ v3).setCell ⟨B, 4, none⟩ v4).setCell ⟨B, 5, none⟩ v5) B t #[v0, v1, v2, v3, v4, v5] := by
  have h0 : Bx _ B t #[v0, x1, x2, x3, x4, x5] := h.s 0 v0
  have h1 : Bx _ B t #[v0, v1, x2, x3, x4, x5] := h0.s 1 v1
  have h2 : Bx _ B t #[v0, v1, v2, x3, x4, x5] := h1.s 2 v2
  have h3 : Bx _ B t #[v0, v1, v2, v3, x4, x5] := h2.s 3 v3
  have h4 : Bx _ B t #[v0, v1, v2, v3, v4, x5] := h3.s 4 v4
  have h5 : Bx _ B t #[v0, v1, v2, v3, v4, v5] := h4.s 5 v5
  exact h5

theorem gset6 (u : World) (X : Nat) (v0 v1 v2 v3 v4 v5 : Value) : u.grownBy ((((((u.setCell ⟨X, 0, none⟩ v0).setCell ⟨X, 1, none⟩ v1).setCell ⟨X, 2, none⟩ v2).setCell ⟨X, 3, none⟩ v3).setCell ⟨X, 4, none⟩ v4).setCell ⟨X, 5, none⟩ v5) (some X) :=
  grownBy_trans (grownBy_trans (grownBy_trans (grownBy_trans (grownBy_trans (grownBy_set u X 0 v0) (grownBy_set _ X 1 v1)) (grownBy_set _ X 2 v2)) (grownBy_set _ X 3 v3)) (grownBy_set _ X 4 v4)) (grownBy_set _ X 5 v5)

/-- A world beyond another one, but for the reader's block and one block made behind it. -/
theorem g_in {a b c : World} {r X : Nat} (h : a.grownBy b (some r)) (k : b.grownBy c (some X)) (hX : a.heap.size ≤ X) : a.grownBy c (some r) :=
  ⟨k.os.trans h.os, k.tape.trans h.tape, k.output.trans h.output, Nat.le_trans h.size k.size, fun i hi hne => (k.block i (Nat.lt_of_lt_of_le hi h.size) (by simp; omega)).trans (h.block i hi hne)⟩

/-- Where the drawing of a state stands. -/
structure Dw (w : World) (r C : Nat) (a : Option Addr) (c : Nat) (p : Int) (l : List Rg) (R f s t : Int) (W : World) : Prop where
  g : w.grownBy W (some r)
  rd : RdOk W r
  res : Bx W w.heap.size 26 #[.int .i64 0, .slice none 0 0, .int .i64 0, .int .i64 0, .int .i64 0, .int .i64 0]
  b : Bx W C 26 (bbC p a l.length c R f s t)
  o : OwnRg W (C + 1) a c l
  lt : w.heap.size < C
  rl : r < w.heap.size
  ln : l.length ≤ 100

theorem Dw.step {w W W' : World} {r C : Nat} {a : Option Addr} {c : Nat} {p : Int} {l : List Rg} {R f s t : Int} (h : Dw w r C a c p l R f s t W) (hg : W.grownBy W' (some r)) (hd : RdOk W' r) : Dw w r C a c p l R f s t W' :=
  ⟨grownBy_trans h.g hg, hd, h.res.kept hg (by have := h.rl; simp; omega), h.b.kept hg (by have := h.rl; have := h.lt; simp; omega), own_r h.o (by have := h.rl; have := h.lt; omega) hg, h.lt, h.rl, h.ln⟩

theorem Dw.keep {w W W' : World} {r C : Nat} {a : Option Addr} {c : Nat} {p : Int} {l : List Rg} {R f s t : Int} (h : Dw w r C a c p l R f s t W) (hg : W.grownBy W' none) : Dw w r C a c p l R f s t W' := h.step (gE hg) (rd_ext h.rd hg)

theorem Dw.other {w W W' : World} {r C : Nat} {a : Option Addr} {c : Nat} {p : Int} {l : List Rg} {R f s t : Int} {X : Nat} (h : Dw w r C a c p l R f s t W) (hg : W.grownBy W' (some X)) (h1 : w.heap.size < X) (h2 : C ≠ X) (h3 : (Value.slice a l.length c).ownBlock = none ∨ (Value.slice a l.length c).ownBlock ≠ some X) : Dw w r C a c p l R f s t W' :=
  ⟨g_in h.g hg (Nat.le_of_lt h1), h.rd.kept hg (by have := h.rl; simp; omega) (by intro k e; have := h.rl; simp at e; omega), h.res.kept hg (by simp; omega), h.b.kept hg (by simp; omega), World.ownsRow.kept h.o hg h3, h.lt, h.rl, h.ln⟩

theorem own_geX {w : World} {C X : Nat} {e : TypeId} {v : Value} {m s : Nat} {ys : List Value} (k : w.ownsRow C e s v m ys) (hX : X < C) : v.ownBlock = none ∨ v.ownBlock ≠ some X := by
  cases hv : v.ownBlock with
  | none => exact .inl rfl
  | some g =>
    refine .inr fun e => ?_
    cases e
    have h2 := (k.lt X hv).1
    omega

theorem own_ltX {w : World} {C X : Nat} {e : TypeId} {v : Value} {m s : Nat} {ys : List Value} (k : w.ownsRow C e s v m ys) (hX : w.heap.size ≤ X) : v.ownBlock = none ∨ v.ownBlock ≠ some X := by
  cases hv : v.ownBlock with
  | none => exact .inl rfl
  | some g =>
    refine .inr fun e => ?_
    cases e
    have h2 := (k.lt X hv).2
    omega

/-- A step's result is stored into the state. -/
theorem Dw.take {w W : World} {r C : Nat} {a : Option Addr} {c : Nat} {p : Int} {l : List Rg} {R f s t : Int} {a' : Option Addr} {c' : Nat} {p' : Int} {l' : List Rg} {R' f' s' t' : Int} (h : Dw w r C a c p l R f s t W) (ho : OwnRg W (C + 1) a' c' l') (hl : l'.length ≤ 100) :
    Dw w r C a' c' p' l' R' f' s' t' ((((((W.setCell ⟨C, 0, none⟩ (.int .i64 p')).setCell ⟨C, 1, none⟩ (.slice a' l'.length c')).setCell ⟨C, 2, none⟩ (.int .i64 R')).setCell ⟨C, 3, none⟩ (.int .i64 f')).setCell ⟨C, 4, none⟩ (.int .i64 s')).setCell ⟨C, 5, none⟩ (.int .i64 t')) :=
  have hg := gset6 W C (.int .i64 p') (.slice a' l'.length c') (.int .i64 R') (.int .i64 f') (.int .i64 s') (.int .i64 t')
  ⟨g_in h.g hg (Nat.le_of_lt h.lt), h.rd.kept hg (by have := h.rl; have := h.lt; simp; omega) (by intro k e; have := h.rl; have := h.lt; simp at e; omega), h.res.kept hg (by have := h.lt; simp; omega), set6 h.b _ _ _ _ _ _, World.ownsRow.kept ho hg (own_geX ho (by omega)), h.lt, h.rl, hl⟩

theorem Dw.still {w W : World} {r C : Nat} {a : Option Addr} {c : Nat} {p : Int} {l : List Rg} {R f s t : Int} (h : Dw w r C a c p l R f s t W) (y : Int) : Dw w r C a c p l R f y t (W.setCell ⟨C, 4, none⟩ (.int .i64 y)) :=
  have hg := grownBy_set W C 4 (.int .i64 y)
  ⟨g_in h.g hg (Nat.le_of_lt h.lt), h.rd.kept hg (by have := h.rl; have := h.lt; simp; omega) (by intro k e; have := h.rl; have := h.lt; simp at e; omega), h.res.kept hg (by have := h.lt; simp; omega), h.b.s 4 _, World.ownsRow.kept h.o hg (own_geX h.o (by omega)), h.lt, h.rl, h.ln⟩

def BrPost (w : World) (r : Nat) (e : Ending) (w' : World) : Prop :=
  ∃ a c p l R f s t, e = .returned (bbV p a (List.length l) c R f s t) ∧ w.grownBy w' (some r) ∧ RdOk w' r ∧ OwnRg w' w.heap.size a c l ∧ l.length ≤ 12

theorem Dw.fin {w W : World} {r C : Nat} {a : Option Addr} {c : Nat} {p : Int} {l : List Rg} {R f s t : Int} (h : Dw w r C a c p l R f s t W) (hl : l.length ≤ 12) : BrPost w r (.returned (bbV p a l.length c R f s t)) ((((((W.setCell ⟨w.heap.size, 0, none⟩ (.int .i64 p)).setCell ⟨w.heap.size, 1, none⟩ (.slice a l.length c)).setCell ⟨w.heap.size, 2, none⟩ (.int .i64 R)).setCell ⟨w.heap.size, 3, none⟩ (.int .i64 f)).setCell ⟨w.heap.size, 4, none⟩ (.int .i64 s)).setCell ⟨w.heap.size, 5, none⟩ (.int .i64 t)) :=
  have hg := gset6 W w.heap.size (.int .i64 p) (.slice a l.length c) (.int .i64 R) (.int .i64 f) (.int .i64 s) (.int .i64 t)
  ⟨a, c, p, l, R, f, s, t, rfl, g_in h.g hg (Nat.le_refl _), h.rd.kept hg (by have := h.rl; simp; omega) (by intro k e; have := h.rl; simp at e; omega), own_base (World.ownsRow.kept h.o hg (own_geX h.o (by have := h.lt; omega))) (by have := h.lt; omega), hl⟩

def BrRel (w : World) (r C : Nat) (i : Value) (wr : World) : Prop :=
  ∃ (a : Option Addr) (c : Nat) (p : Int) (l : List Rg) (R f s t k : Int), i = .int .i64 k ∧ 0 ≤ k ∧ (l.length : Int) + k ≤ 12 ∧ Dw w r C a c p l R f s t wr

/-- What the region of a step leaves. -/
structure Rz (w : World) (r C : Nat) (a : Option Addr) (c : Nat) (p : Int) (l : List Rg) (R f s t : Int) (B : Nat) (a' : Option Addr) (c' : Nat) (U : Bb) (wx : World) : Prop where
  d : Dw w r C a c p l R f s t wx
  n : Bx wx B 26 (bbC U.p a' U.l.length c' U.r U.f U.s U.t)
  o : OwnRg wx (C + 1) a' c' U.l

theorem rz_new {w W : World} {r C : Nat} {a : Option Addr} {c : Nat} {p : Int} {l : List Rg} {R f s t : Int} {B D : Nat} {a' : Option Addr} {c' : Nat} {U : Bb} {x0 x1 x2 x3 x4 x5 : Value} (h : Dw w r C a c p l R f s t W) (hb : Bx W B 26 #[x0, x1, x2, x3, x4, x5]) (hB : C < B) (hn : (Value.slice a l.length c).ownBlock = none ∨ (Value.slice a l.length c).ownBlock ≠ some B) (ho : OwnRg W D a' c' U.l) (hD : C + 1 ≤ D) (hne : (Value.slice a' U.l.length c').ownBlock = none ∨ (Value.slice a' U.l.length c').ownBlock ≠ some B) :
    Rz w r C a c p l R f s t B a' c' U ((((((W.setCell ⟨B, 0, none⟩ (.int .i64 U.p)).setCell ⟨B, 1, none⟩ (.slice a' U.l.length c')).setCell ⟨B, 2, none⟩ (.int .i64 U.r)).setCell ⟨B, 3, none⟩ (.int .i64 U.f)).setCell ⟨B, 4, none⟩ (.int .i64 U.s)).setCell ⟨B, 5, none⟩ (.int .i64 U.t)) :=
  ⟨h.other (gset6 W B _ _ _ _ _ _) (Nat.lt_trans h.lt hB) (by omega) hn, set6 hb _ _ _ _ _ _, own_base (World.ownsRow.kept ho (gset6 W B _ _ _ _ _ _) hne) hD⟩


/-- The state and the sample that a step takes. -/
structure Ds (w : World) (r C : Nat) (a : Option Addr) (c : Nat) (p : Int) (l : List Rg) (R f s t : Int) (X : Nat) (tx rx : Int) (W : World) : Prop where
  d : Dw w r C a c p l R f s t W
  x : Bx W X 28 #[.int .i64 tx, .int .i64 rx]
  cx : C < X

theorem Ds.step {w W W' : World} {r C : Nat} {a : Option Addr} {c : Nat} {p : Int} {l : List Rg} {R f s t : Int} {X : Nat} {tx rx : Int} (h : Ds w r C a c p l R f s t X tx rx W) (hg : W.grownBy W' (some r)) (hd : RdOk W' r) : Ds w r C a c p l R f s t X tx rx W' :=
  ⟨h.d.step hg hd, h.x.kept hg (by have := h.d.rl; have := h.d.lt; have := h.cx; simp; omega), h.cx⟩

theorem Ds.keep {w W W' : World} {r C : Nat} {a : Option Addr} {c : Nat} {p : Int} {l : List Rg} {R f s t : Int} {X : Nat} {tx rx : Int} (h : Ds w r C a c p l R f s t X tx rx W) (hg : W.grownBy W' none) : Ds w r C a c p l R f s t X tx rx W' :=
  ⟨h.d.keep hg, h.x.keep hg, h.cx⟩

/-- A sample is drawn, laid into a block of its own, its rate a thousand times as much. -/
theorem ds_new {w W : World} {r C : Nat} {a : Option Addr} {c : Nat} {p : Int} {l : List Rg} {R f s t : Int} {tx rx : Int} (h : Dw w r C a c p l R f s t W) : Ds w r C a c p l R f s t W.heap.size tx rx (W.alloc (.cells #[.int .i64 tx, .int .i64 rx] 28)) :=
  ⟨h.keep (World.grownBy_alloc W _ none), Bx.new W _ _, h.b.lt⟩

set_option maxRecDepth 100000 in
set_option maxHeartbeats 3000000 in
theorem bbr_draw (r : Nat) (w : World) (h : RdOk w r) : Calls Try.prog 18 #[.pointer (some ⟨r, 0, none⟩)] w (BrPost w r) := by
  have hrlt : r < w.heap.size := h.lt
  have hZ := Bx.new w 26 #[.int .i64 0, .slice none 0 0, .int .i64 0, .int .i64 0, .int .i64 0, .int .i64 0]
  have gZ := World.grownBy_alloc w (.cells #[.int .i64 0, .slice none 0 0, .int .i64 0, .int .i64 0, .int .i64 0, .int .i64 0] 26) none
  have H0 := Lib.hid (And.intro (gE (r := r) gZ) (And.intro (h.alloc (.cells #[.int .i64 0, .slice none 0 0, .int .i64 0, .int .i64 0, .int .i64 0, .int .i64 0] 26)) hZ))
  clear h hZ gZ
  go_enter Try.func18, Try.ntmps18
  go_wp2_with fail
  generalize w.alloc (.cells #[.int .i64 0, .slice none 0 0, .int .i64 0, .int .i64 0, .int .i64 0, .int .i64 0] 26) = w0 at *
  refine (below_any _ _ _ H0.out.2.1 (by omega)).mono ?_
  rintro e w1 ⟨v1, a0, a1, rfl, hg, hr⟩
  rw [if_neg (by omega)] at a1
  have H1 := Lib.hid (And.intro (grownBy_trans H0.out.1 hg) (And.intro hr (H0.out.2.2.kept hg (by simp; omega))))
  clear hg hr
  have hwv : IntKind.i64.wrap (1 + v1) = 1 + v1 := IntWalk.i64_in _ (by omega)
  obtain ⟨P, Q, B, hv, _⟩ := bn_form (1 + v1)
  have HV := Lib.hid hv
  clear hv
  go_wp2_with fail
  refine ((bn_spec (1 + v1) _).mono (fun _ _ h => bn_as HV.out h)).mono ?_
  rintro e w2 ⟨rfl, hg⟩
  have hX := Bx.new w2 26 (bbC P none 0 0 Q 0 0 0)
  have gX := World.grownBy_alloc w2 (.cells (bbC P none 0 0 Q 0 0 0) 26) none
  have H2 := Lib.hid (show Dw w r w2.heap.size none 0 P [] Q 0 0 0 (w2.alloc (.cells (bbC P none 0 0 Q 0 0 0) 26)) from ⟨g_ext H1.out.1 (grownBy_trans hg gX), rd_ext H1.out.2.1 (grownBy_trans hg gX), (H1.out.2.2.keep hg).keep gX, hX, World.ownsRow_nil _ _ _ _, (H1.out.2.2.keep hg).lt, hrlt, by simp⟩)
  clear hg hX gX hwv a0 a1
  go_wp2_with fail
  generalize w2.alloc (.cells (bbC P none 0 0 Q 0 0 0) 26) = w3 at *
  generalize w2.heap.size = C at *
  refine (below_any _ _ _ H2.out.rd (by omega)).mono ?_
  rintro e w4 ⟨n, n0, n1, rfl, hg, hr⟩
  rw [if_neg (by omega)] at n1
  have H3 := Lib.hid (H2.out.step hg hr)
  clear hg hr H2 H1 H0
  go_wp2_with fail
  go_loopw [5, 6, 7, 8] (fun i s6 s7 s8 wr => BrRel w r C i wr) (fun i _ _ _ _ => (intOf i).toNat)
  case atStart => exact ⟨none, 0, P, [], Q, 0, 0, 0, n, rfl, n0, by simp; omega, H3.out⟩
  case round =>
    clear H3 n0 n1
    obtain ⟨a, c, p, l, R, f, s, t, k, rfl, k0, k1, hd⟩ := hrel
    have HS := Lib.hid hd
    have hl := hd.ln
    have hl12 : l.length ≤ 12 := by omega
    clear hd
    by_cases hk : 0 < k
    · have hwk : IntKind.i64.wrap (k - 1) = k - 1 := IntWalk.i64_in _ (by omega)
      have b1 := HS.out.b.c 1 rfl
      go_wp2_with fail
      refine (sample_draw _ _ _ _ _ _ HS.out.rd HS.out.o (by have := HS.out.lt; omega) (by omega)).mono ?_
      rintro e w5 ⟨tx, q, rfl, hg, hr⟩
      have H5 := Lib.hid (HS.out.step hg hr)
      clear hg hr b1 HS
      have hxx := (Bx.new w5 28 #[.int .i64 tx, .int .i64 q]).c 1 rfl
      have hxf := (Bx.new w5 28 #[.int .i64 tx, .int .i64 q]).f 1
      obtain ⟨rx, hrx⟩ : ∃ rx, IntKind.i64.wrap (1000 * q) = rx := ⟨_, rfl⟩
      go_upto_region 7 with fail
      clear hxx hxf hrx
      have HD := Lib.hid (ds_new (tx := tx) (rx := rx) H5.out)
      clear H5
      generalize w5.alloc (.cells #[.int .i64 tx, .int .i64 rx] 28) = wb at *
      generalize w5.heap.size = X at *
      have HCX := Lib.hid (show r < X ∧ C < X from ⟨by have := HD.out.cx; have := HD.out.d.lt; omega, HD.out.cx⟩)
      go_cut [7, 8] (fun s7 s8 wx => ∃ (B : Nat) (a5 : Option Addr) (c5 : Nat) (U : Bb) (D : Bool), s7 = .pointer (some ⟨B, 0, none⟩) ∧ s8 = .bool D ∧ Rz w r C a c p l R f s t B a5 c5 U wx ∧ U.l.length ≤ l.length + 1 ∧ U.l.length ≤ 100)
      case first =>
        have p0 := (HD.out.d.b).c 0 rfl
        have p1 := (HD.out.d.b).c 1 rfl
        have p2 := (HD.out.d.b).c 2 rfl
        have p3 := (HD.out.d.b).c 3 rfl
        have p4 := (HD.out.d.b).c 4 rfl
        have p5 := (HD.out.d.b).c 5 rfl
        have p6 := HD.out.x.c 0 rfl
        have p7 := HD.out.x.c 1 rfl
        refine wp_region_held_drew (S := fun w' => w'.cell? ⟨C, 0, none⟩ = some (.int .i64 p) ∧ w'.cell? ⟨C, 1, none⟩ = some (.slice a l.length c) ∧ w'.cell? ⟨C, 2, none⟩ = some (.int .i64 R) ∧ w'.cell? ⟨C, 3, none⟩ = some (.int .i64 f) ∧ w'.cell? ⟨C, 4, none⟩ = some (.int .i64 s) ∧ w'.cell? ⟨C, 5, none⟩ = some (.int .i64 t) ∧ w'.cell? ⟨X, 0, none⟩ = some (.int .i64 tx) ∧ w'.cell? ⟨X, 1, none⟩ = some (.int .i64 rx) ∧ Ds w r C a c p l R f s t X tx rx w') (by kernel_rfl) (by have hF := HD.out.keep (grownBy_drew (a := wb)); exact ⟨(hF).d.b.c 0 rfl, (hF).d.b.c 1 rfl, (hF).d.b.c 2 rfl, (hF).d.b.c 3 rfl, (hF).d.b.c 4 rfl, (hF).d.b.c 5 rfl, (hF).x.c 0 rfl, (hF).x.c 1 rfl, hF⟩) (fun hS => ?_)
        refine wpAnyH_take (i := 0) (v := ?_) rfl (by kernel_rfl) (by kernel_rfl) (by kernel_rfl) (fun _ _ _ h => h) (Or.inl ⟨by kernel_rfl, ?_⟩) hS ?_
        rotate_left
        · intro w' hSw
          obtain ⟨g0, g1, g2, g3, g4, g5, g6, g7, _⟩ := hSw
          first | (go_simp; done) | (go_simp; with_reducible rfl)
        simp only [List.getElem_toArray, List.getElem_cons_zero, Act.put, List.setIfInBounds_toArray, List.set_cons_zero, List.set_cons_succ]
        refine wpAnyH_take (i := 1) (v := ?_) rfl (by kernel_rfl) (by kernel_rfl) (by kernel_rfl) (fun _ _ _ h => h) (Or.inl ⟨by kernel_rfl, ?_⟩) hS ?_
        rotate_left
        · intro w' hSw
          obtain ⟨g0, g1, g2, g3, g4, g5, g6, g7, _⟩ := hSw
          first | (go_simp; done) | (go_simp; with_reducible rfl)
        simp only [List.getElem_toArray, List.getElem_cons_zero, List.getElem_cons_succ, Act.put, List.setIfInBounds_toArray, List.set_cons_zero, List.set_cons_succ]
        refine wpAnyH_take (i := 2) (v := ?_) rfl (by kernel_rfl) (by kernel_rfl) (by kernel_rfl) (fun _ _ _ h => h) (Or.inl ⟨by kernel_rfl, ?_⟩) hS ?_
        rotate_left
        · intro w' hSw
          obtain ⟨g0, g1, g2, g3, g4, g5, g6, g7, _⟩ := hSw
          first | (go_simp; done) | (go_simp; with_reducible rfl)
        simp only [List.getElem_toArray, List.getElem_cons_zero, List.getElem_cons_succ, Act.put, List.setIfInBounds_toArray, List.set_cons_zero, List.set_cons_succ]
        refine wpAnyH_take (i := 5) (v := ?_) rfl (by kernel_rfl) (by kernel_rfl) (by kernel_rfl) (fun _ _ _ h => h) (Or.inl ⟨by kernel_rfl, ?_⟩) hS ?_
        rotate_left
        · intro w' hSw
          obtain ⟨g0, g1, g2, g3, g4, g5, g6, g7, _⟩ := hSw
          first | (go_simp; done) | (go_simp; with_reducible rfl)
        simp only [List.getElem_toArray, List.getElem_cons_zero, List.getElem_cons_succ, Act.put, List.setIfInBounds_toArray, List.set_cons_zero, List.set_cons_succ]
        refine wpAnyH_ready (rs := [3, 11]) (by kernel_rfl) (List.cons_ne_nil _ _) ?_
        refine AllReadyH.cons rfl (fun K hK => ?_) ?_
        · go_simp
          go_at_call 37
          refine (below_any _ _ _ (hS.2.2.2.2.2.2.2.2).d.rd (by omega)).mono ?_
          rintro e ub ⟨v1, v10, v11, rfl, hg, hr⟩
          rw [if_neg (by omega)] at v11
          have hF := (hS.2.2.2.2.2.2.2.2).step hg hr
          have hwv1 : IntKind.i64.wrap (1 + v1) = 1 + v1 := IntWalk.i64_in _ (by omega)
          refine hK.out _ _ (⟨(hF).d.b.c 0 rfl, (hF).d.b.c 1 rfl, (hF).d.b.c 2 rfl, (hF).d.b.c 3 rfl, (hF).d.b.c 4 rfl, (hF).d.b.c 5 rfl, (hF).x.c 0 rfl, (hF).x.c 1 rfl, hF⟩) (fun hS => ?_)
          clear hF hg hr
          clear hK
          try simp only [List.getElem_toArray, List.getElem_cons_zero, List.getElem_cons_succ, Act.put, List.setIfInBounds_toArray, List.set_cons_zero, List.set_cons_succ]
          refine wpAnyH_take (i := 4) (v := ?_) rfl (by kernel_rfl) (by kernel_rfl) (by kernel_rfl) (fun _ _ _ h => h) (Or.inl ⟨by kernel_rfl, ?_⟩) hS ?_
          rotate_left
          · intro w' hSw
            obtain ⟨g0, g1, g2, g3, g4, g5, g6, g7, _⟩ := hSw
            first | (go_simp; done) | (go_simp; with_reducible rfl)
          simp only [List.getElem_toArray, List.getElem_cons_zero, List.getElem_cons_succ, Act.put, List.setIfInBounds_toArray, List.set_cons_zero, List.set_cons_succ]
          refine wpAnyH_ready (rs := [6, 11]) (by kernel_rfl) (List.cons_ne_nil _ _) ?_
          refine AllReadyH.cons rfl (fun K hK => ?_) ?_
          · go_simp
            go_at_call 37
            refine (below_any _ _ _ (hS.2.2.2.2.2.2.2.2).d.rd (by omega)).mono ?_
            rintro e ubd ⟨v2, v20, v21, rfl, hg, hr⟩
            rw [if_neg (by omega)] at v21
            have hF := (hS.2.2.2.2.2.2.2.2).step hg hr
            refine hK.out _ _ (⟨(hF).d.b.c 0 rfl, (hF).d.b.c 1 rfl, (hF).d.b.c 2 rfl, (hF).d.b.c 3 rfl, (hF).d.b.c 4 rfl, (hF).d.b.c 5 rfl, (hF).x.c 0 rfl, (hF).x.c 1 rfl, hF⟩) (fun hS => ?_)
            clear hF hg hr
            clear hK
            try simp only [List.getElem_toArray, List.getElem_cons_zero, List.getElem_cons_succ, Act.put, List.setIfInBounds_toArray, List.set_cons_zero, List.set_cons_succ]
            refine wpAnyH_ready (rs := [7, 11]) (by kernel_rfl) (List.cons_ne_nil _ _) ?_
            refine AllReadyH.cons rfl (fun K hK => ?_) ?_
            · go_simp
              go_at_call 8
              refine (step_spec _ _ _ _ _ _ _ _ _ _ _ _ _ (rg_own (hS.2.2.2.2.2.2.2.2).d.o) (by omega)).mono ?_
              rintro e ubdp ⟨a5, c5, rfl, hg, ho⟩
              have hU := Lib.hid (And.intro (step_more (⟨p, l, R, f, s, t⟩ : Bb) (tx, rx) (1 + v1) v2) (step_len (⟨p, l, R, f, s, t⟩ : Bb) (tx, rx) (1 + v1) v2))
              generalize stepOk (⟨p, l, R, f, s, t⟩ : Bb) (tx, rx) (1 + v1) v2 = D at *
              generalize stepB (⟨p, l, R, f, s, t⟩ : Bb) (tx, rx) (1 + v1) v2 = U at *
              have houbdp := Lib.hid (And.intro ho (show C + 1 ≤ ubd.heap.size from (hS.2.2.2.2.2.2.2.2).d.b.lt))
              have hF := (hS.2.2.2.2.2.2.2.2).keep hg
              clear ho
              refine hK.out _ _ (⟨(hF).d.b.c 0 rfl, (hF).d.b.c 1 rfl, (hF).d.b.c 2 rfl, (hF).d.b.c 3 rfl, (hF).d.b.c 4 rfl, (hF).d.b.c 5 rfl, (hF).x.c 0 rfl, (hF).x.c 1 rfl, hF⟩) (fun hS => ?_)
              clear hF hg
              clear hK
              try simp only [List.getElem_toArray, List.getElem_cons_zero, List.getElem_cons_succ, Act.put, List.setIfInBounds_toArray, List.set_cons_zero, List.set_cons_succ]
              refine wpAnyH_take (i := 8) (v := ?_) rfl (by kernel_rfl) (by kernel_rfl) (by kernel_rfl) (fun _ _ _ h => h) (Or.inl ⟨by kernel_rfl, ?_⟩) hS ?_
              rotate_left
              · intro w' hSw
                obtain ⟨g0, g1, g2, g3, g4, g5, g6, g7, _⟩ := hSw
                first | (go_simp; done) | (go_simp; with_reducible rfl)
              simp only [List.getElem_toArray, List.getElem_cons_zero, List.getElem_cons_succ, Act.put, List.setIfInBounds_toArray, List.set_cons_zero, List.set_cons_succ]
              refine wpAnyH_take (i := 9) (v := ?_) rfl (by kernel_rfl) (by kernel_rfl) (by kernel_rfl) (fun _ _ _ h => h) (Or.inl ⟨by kernel_rfl, ?_⟩) hS ?_
              rotate_left
              · intro w' hSw
                obtain ⟨g0, g1, g2, g3, g4, g5, g6, g7, _⟩ := hSw
                first | (go_simp; done) | (go_simp; with_reducible rfl)
              simp only [List.getElem_toArray, List.getElem_cons_zero, List.getElem_cons_succ, Act.put, List.setIfInBounds_toArray, List.set_cons_zero, List.set_cons_succ]
              refine wpAnyH_take (i := 10) (v := ?_) rfl (by kernel_rfl) (by kernel_rfl) (by kernel_rfl) (fun _ _ _ h => h) (Or.inl ⟨by kernel_rfl, ?_⟩) hS ?_
              rotate_left
              · intro w' hSw
                obtain ⟨g0, g1, g2, g3, g4, g5, g6, g7, _⟩ := hSw
                first | (go_simp; done) | (go_simp; with_reducible rfl)
              simp only [List.getElem_toArray, List.getElem_cons_zero, List.getElem_cons_succ, Act.put, List.setIfInBounds_toArray, List.set_cons_zero, List.set_cons_succ]
              refine wpAnyH_ready (rs := [11]) (by kernel_rfl) (List.cons_ne_nil _ _) ?_
              refine AllReadyH.cons rfl (fun K hK => ?_) AllReadyH.nil
              go_simp
              refine gen_v (P := fun V => ubdp.grownBy V none ∧ Bx V ubdp.heap.size 26 (#[.int .i64 0, .slice none 0 0, .int .i64 0, .int .i64 0, .int .i64 0, .int .i64 0])) ⟨?_, ?_⟩ (fun ubdpa hp => ?_)
              · first | with_reducible exact World.grownBy_alloc _ _ _ | with_reducible exact gA grownBy_drew _ | with_reducible exact grownBy_trans (World.grownBy_alloc _ _ _) grownBy_drew
              · first | with_reducible exact Bx.new _ _ _ | with_reducible exact (Bx.new _ _ _).keep grownBy_drew | exact Bx.new _ _ _
              have hF := (hS.2.2.2.2.2.2.2.2).keep hp.1
              have hxubdpa := Lib.hid hp.2
              have hbx := Lib.hid (show X < ubdp.heap.size from (hS.2.2.2.2.2.2.2.2).x.lt)
              have hna := Lib.hid (own_ltX (hS.2.2.2.2.2.2.2.2).d.o (Nat.le_refl ubdp.heap.size))
              have houbdpa := Lib.hid (And.intro (own_kept houbdp.out.1 hp.1) houbdp.out.2)
              have hneA := Lib.hid (own_ltX houbdp.out.1 (Nat.le_refl ubdp.heap.size))
              refine hK.out _ _ (⟨(hF).d.b.c 0 rfl, (hF).d.b.c 1 rfl, (hF).d.b.c 2 rfl, (hF).d.b.c 3 rfl, (hF).d.b.c 4 rfl, (hF).d.b.c 5 rfl, (hF).x.c 0 rfl, (hF).x.c 1 rfl, hF⟩) (fun hS => ?_)
              clear hF hp
              clear hK
              try simp only [List.getElem_toArray, List.getElem_cons_zero, List.getElem_cons_succ, Act.put, List.setIfInBounds_toArray, List.set_cons_zero, List.set_cons_succ]
              refine wpAnyH_ready (rs := [12]) (by kernel_rfl) (List.cons_ne_nil _ _) ?_
              refine AllReadyH.cons rfl (fun K hK => ?_) AllReadyH.nil
              have z0 := hxubdpa.out.c 0 rfl
              have z1 := hxubdpa.out.c 1 rfl
              have z2 := hxubdpa.out.c 2 rfl
              have z3 := hxubdpa.out.c 3 rfl
              have z4 := hxubdpa.out.c 4 rfl
              have z5 := hxubdpa.out.c 5 rfl
              have f0 := hxubdpa.out.f 0
              have f1 := hxubdpa.out.f 1
              have f2 := hxubdpa.out.f 2
              have f3 := hxubdpa.out.f 3
              have f4 := hxubdpa.out.f 4
              have f5 := hxubdpa.out.f 5
              have lx := hxubdpa.out.lt
              go_simp
              refine gen_v (P := fun V => Rz w r C a c p l R f s t _ a5 c5 U V ∧ Bx V X 28 #[.int .i64 tx, .int .i64 rx]) ⟨rz_new (hS.2.2.2.2.2.2.2.2).d hxubdpa.out (Nat.lt_trans HCX.out.2 hbx.out) hna.out houbdpa.out.1 houbdpa.out.2 hneA.out, (hS.2.2.2.2.2.2.2.2).x.kept (gset6 _ _ _ _ _ _ _ _) (by have := hbx.out; simp; omega)⟩ (fun uz hp => ?_)
              have hpp := Lib.hid hp.1
              have hF : Ds w r C a c p l R f s t X tx rx uz := ⟨hp.1.d, hp.2, HCX.out.2⟩
              clear hp z0 f0 z1 f1 z2 f2 z3 f3 z4 f4 z5 f5 lx
              refine hK.out _ _ (⟨(hF).d.b.c 0 rfl, (hF).d.b.c 1 rfl, (hF).d.b.c 2 rfl, (hF).d.b.c 3 rfl, (hF).d.b.c 4 rfl, (hF).d.b.c 5 rfl, (hF).x.c 0 rfl, (hF).x.c 1 rfl, hF⟩) (fun hS => ?_)
              clear hF
              clear hK
              try simp only [List.getElem_toArray, List.getElem_cons_zero, List.getElem_cons_succ, Act.put, List.setIfInBounds_toArray, List.set_cons_zero, List.set_cons_succ]
              refine wpAnyH_take (i := 13) (v := ?_) rfl (by kernel_rfl) (by kernel_rfl) (by kernel_rfl) (fun _ _ _ h => h) (Or.inl ⟨by kernel_rfl, ?_⟩) hS ?_
              rotate_left
              · intro w' hSw
                obtain ⟨g0, g1, g2, g3, g4, g5, g6, g7, _⟩ := hSw
                first | (go_simp; done) | (go_simp; with_reducible rfl)
              simp only [List.getElem_toArray, List.getElem_cons_zero, List.getElem_cons_succ, Act.put, List.setIfInBounds_toArray, List.set_cons_zero, List.set_cons_succ]
              refine wpAnyH_done (by kernel_rfl) ?_ _
              go_wp2_with fail
              go_meet
              exact ⟨_, _, _, _, _, rfl, rfl, hpp.out, hU.out⟩
            refine AllReadyH.cons rfl (fun K hK => ?_) ?_
            · go_simp
              refine gen_v (P := fun V => ubd.grownBy V none ∧ Bx V ubd.heap.size 26 (#[.int .i64 0, .slice none 0 0, .int .i64 0, .int .i64 0, .int .i64 0, .int .i64 0])) ⟨?_, ?_⟩ (fun ubda hp => ?_)
              · first | with_reducible exact World.grownBy_alloc _ _ _ | with_reducible exact gA grownBy_drew _ | with_reducible exact grownBy_trans (World.grownBy_alloc _ _ _) grownBy_drew
              · first | with_reducible exact Bx.new _ _ _ | with_reducible exact (Bx.new _ _ _).keep grownBy_drew | exact Bx.new _ _ _
              have hF := (hS.2.2.2.2.2.2.2.2).keep hp.1
              have hxubda := Lib.hid hp.2
              have hbx := Lib.hid (show X < ubd.heap.size from (hS.2.2.2.2.2.2.2.2).x.lt)
              have hna := Lib.hid (own_ltX (hS.2.2.2.2.2.2.2.2).d.o (Nat.le_refl ubd.heap.size))
              refine hK.out _ _ (⟨(hF).d.b.c 0 rfl, (hF).d.b.c 1 rfl, (hF).d.b.c 2 rfl, (hF).d.b.c 3 rfl, (hF).d.b.c 4 rfl, (hF).d.b.c 5 rfl, (hF).x.c 0 rfl, (hF).x.c 1 rfl, hF⟩) (fun hS => ?_)
              clear hF hp
              clear hK
              try simp only [List.getElem_toArray, List.getElem_cons_zero, List.getElem_cons_succ, Act.put, List.setIfInBounds_toArray, List.set_cons_zero, List.set_cons_succ]
              refine wpAnyH_ready (rs := [7]) (by kernel_rfl) (List.cons_ne_nil _ _) ?_
              refine AllReadyH.cons rfl (fun K hK => ?_) AllReadyH.nil
              go_simp
              go_at_call 8
              refine (step_spec _ _ _ _ _ _ _ _ _ _ _ _ _ (rg_own (hS.2.2.2.2.2.2.2.2).d.o) (by omega)).mono ?_
              rintro e ubdpa ⟨a5, c5, rfl, hg, ho⟩
              have hU := Lib.hid (And.intro (step_more (⟨p, l, R, f, s, t⟩ : Bb) (tx, rx) (1 + v1) v2) (step_len (⟨p, l, R, f, s, t⟩ : Bb) (tx, rx) (1 + v1) v2))
              generalize stepOk (⟨p, l, R, f, s, t⟩ : Bb) (tx, rx) (1 + v1) v2 = D at *
              generalize stepB (⟨p, l, R, f, s, t⟩ : Bb) (tx, rx) (1 + v1) v2 = U at *
              have houbdpa := Lib.hid (And.intro ho (show C + 1 ≤ ubda.heap.size from (hS.2.2.2.2.2.2.2.2).d.b.lt))
              have hF := (hS.2.2.2.2.2.2.2.2).keep hg
              have hneA := Lib.hid (own_geX ho hxubda.out.lt)
              have hxubdpa := Lib.hid (hxubda.out.keep hg)
              clear ho
              refine hK.out _ _ (⟨(hF).d.b.c 0 rfl, (hF).d.b.c 1 rfl, (hF).d.b.c 2 rfl, (hF).d.b.c 3 rfl, (hF).d.b.c 4 rfl, (hF).d.b.c 5 rfl, (hF).x.c 0 rfl, (hF).x.c 1 rfl, hF⟩) (fun hS => ?_)
              clear hF hg
              clear hK
              try simp only [List.getElem_toArray, List.getElem_cons_zero, List.getElem_cons_succ, Act.put, List.setIfInBounds_toArray, List.set_cons_zero, List.set_cons_succ]
              refine wpAnyH_take (i := 8) (v := ?_) rfl (by kernel_rfl) (by kernel_rfl) (by kernel_rfl) (fun _ _ _ h => h) (Or.inl ⟨by kernel_rfl, ?_⟩) hS ?_
              rotate_left
              · intro w' hSw
                obtain ⟨g0, g1, g2, g3, g4, g5, g6, g7, _⟩ := hSw
                first | (go_simp; done) | (go_simp; with_reducible rfl)
              simp only [List.getElem_toArray, List.getElem_cons_zero, List.getElem_cons_succ, Act.put, List.setIfInBounds_toArray, List.set_cons_zero, List.set_cons_succ]
              refine wpAnyH_take (i := 9) (v := ?_) rfl (by kernel_rfl) (by kernel_rfl) (by kernel_rfl) (fun _ _ _ h => h) (Or.inl ⟨by kernel_rfl, ?_⟩) hS ?_
              rotate_left
              · intro w' hSw
                obtain ⟨g0, g1, g2, g3, g4, g5, g6, g7, _⟩ := hSw
                first | (go_simp; done) | (go_simp; with_reducible rfl)
              simp only [List.getElem_toArray, List.getElem_cons_zero, List.getElem_cons_succ, Act.put, List.setIfInBounds_toArray, List.set_cons_zero, List.set_cons_succ]
              refine wpAnyH_take (i := 10) (v := ?_) rfl (by kernel_rfl) (by kernel_rfl) (by kernel_rfl) (fun _ _ _ h => h) (Or.inl ⟨by kernel_rfl, ?_⟩) hS ?_
              rotate_left
              · intro w' hSw
                obtain ⟨g0, g1, g2, g3, g4, g5, g6, g7, _⟩ := hSw
                first | (go_simp; done) | (go_simp; with_reducible rfl)
              simp only [List.getElem_toArray, List.getElem_cons_zero, List.getElem_cons_succ, Act.put, List.setIfInBounds_toArray, List.set_cons_zero, List.set_cons_succ]
              refine wpAnyH_ready (rs := [12]) (by kernel_rfl) (List.cons_ne_nil _ _) ?_
              refine AllReadyH.cons rfl (fun K hK => ?_) AllReadyH.nil
              have z0 := hxubdpa.out.c 0 rfl
              have z1 := hxubdpa.out.c 1 rfl
              have z2 := hxubdpa.out.c 2 rfl
              have z3 := hxubdpa.out.c 3 rfl
              have z4 := hxubdpa.out.c 4 rfl
              have z5 := hxubdpa.out.c 5 rfl
              have f0 := hxubdpa.out.f 0
              have f1 := hxubdpa.out.f 1
              have f2 := hxubdpa.out.f 2
              have f3 := hxubdpa.out.f 3
              have f4 := hxubdpa.out.f 4
              have f5 := hxubdpa.out.f 5
              have lx := hxubdpa.out.lt
              go_simp
              refine gen_v (P := fun V => Rz w r C a c p l R f s t _ a5 c5 U V ∧ Bx V X 28 #[.int .i64 tx, .int .i64 rx]) ⟨rz_new (hS.2.2.2.2.2.2.2.2).d hxubdpa.out (Nat.lt_trans HCX.out.2 hbx.out) hna.out houbdpa.out.1 houbdpa.out.2 hneA.out, (hS.2.2.2.2.2.2.2.2).x.kept (gset6 _ _ _ _ _ _ _ _) (by have := hbx.out; simp; omega)⟩ (fun uz hp => ?_)
              have hpp := Lib.hid hp.1
              have hF : Ds w r C a c p l R f s t X tx rx uz := ⟨hp.1.d, hp.2, HCX.out.2⟩
              clear hp z0 f0 z1 f1 z2 f2 z3 f3 z4 f4 z5 f5 lx
              refine hK.out _ _ (⟨(hF).d.b.c 0 rfl, (hF).d.b.c 1 rfl, (hF).d.b.c 2 rfl, (hF).d.b.c 3 rfl, (hF).d.b.c 4 rfl, (hF).d.b.c 5 rfl, (hF).x.c 0 rfl, (hF).x.c 1 rfl, hF⟩) (fun hS => ?_)
              clear hF
              clear hK
              try simp only [List.getElem_toArray, List.getElem_cons_zero, List.getElem_cons_succ, Act.put, List.setIfInBounds_toArray, List.set_cons_zero, List.set_cons_succ]
              refine wpAnyH_take (i := 13) (v := ?_) rfl (by kernel_rfl) (by kernel_rfl) (by kernel_rfl) (fun _ _ _ h => h) (Or.inl ⟨by kernel_rfl, ?_⟩) hS ?_
              rotate_left
              · intro w' hSw
                obtain ⟨g0, g1, g2, g3, g4, g5, g6, g7, _⟩ := hSw
                first | (go_simp; done) | (go_simp; with_reducible rfl)
              simp only [List.getElem_toArray, List.getElem_cons_zero, List.getElem_cons_succ, Act.put, List.setIfInBounds_toArray, List.set_cons_zero, List.set_cons_succ]
              refine wpAnyH_done (by kernel_rfl) ?_ _
              go_wp2_with fail
              go_meet
              exact ⟨_, _, _, _, _, rfl, rfl, hpp.out, hU.out⟩
            exact AllReadyH.nil
          refine AllReadyH.cons rfl (fun K hK => ?_) ?_
          · go_simp
            refine gen_v (P := fun V => ub.grownBy V none ∧ Bx V ub.heap.size 26 (#[.int .i64 0, .slice none 0 0, .int .i64 0, .int .i64 0, .int .i64 0, .int .i64 0])) ⟨?_, ?_⟩ (fun uba hp => ?_)
            · first | with_reducible exact World.grownBy_alloc _ _ _ | with_reducible exact gA grownBy_drew _ | with_reducible exact grownBy_trans (World.grownBy_alloc _ _ _) grownBy_drew
            · first | with_reducible exact Bx.new _ _ _ | with_reducible exact (Bx.new _ _ _).keep grownBy_drew | exact Bx.new _ _ _
            have hF := (hS.2.2.2.2.2.2.2.2).keep hp.1
            have hxuba := Lib.hid hp.2
            have hbx := Lib.hid (show X < ub.heap.size from (hS.2.2.2.2.2.2.2.2).x.lt)
            have hna := Lib.hid (own_ltX (hS.2.2.2.2.2.2.2.2).d.o (Nat.le_refl ub.heap.size))
            refine hK.out _ _ (⟨(hF).d.b.c 0 rfl, (hF).d.b.c 1 rfl, (hF).d.b.c 2 rfl, (hF).d.b.c 3 rfl, (hF).d.b.c 4 rfl, (hF).d.b.c 5 rfl, (hF).x.c 0 rfl, (hF).x.c 1 rfl, hF⟩) (fun hS => ?_)
            clear hF hp
            clear hK
            try simp only [List.getElem_toArray, List.getElem_cons_zero, List.getElem_cons_succ, Act.put, List.setIfInBounds_toArray, List.set_cons_zero, List.set_cons_succ]
            refine wpAnyH_ready (rs := [6]) (by kernel_rfl) (List.cons_ne_nil _ _) ?_
            refine AllReadyH.cons rfl (fun K hK => ?_) AllReadyH.nil
            go_simp
            go_at_call 37
            refine (below_any _ _ _ (hS.2.2.2.2.2.2.2.2).d.rd (by omega)).mono ?_
            rintro e ubda ⟨v2, v20, v21, rfl, hg, hr⟩
            rw [if_neg (by omega)] at v21
            have hF := (hS.2.2.2.2.2.2.2.2).step hg hr
            have hxubda := Lib.hid (hxuba.out.kept hg (by have := hbx.out; have := HCX.out; simp; omega))
            refine hK.out _ _ (⟨(hF).d.b.c 0 rfl, (hF).d.b.c 1 rfl, (hF).d.b.c 2 rfl, (hF).d.b.c 3 rfl, (hF).d.b.c 4 rfl, (hF).d.b.c 5 rfl, (hF).x.c 0 rfl, (hF).x.c 1 rfl, hF⟩) (fun hS => ?_)
            clear hF hg hr
            clear hK
            try simp only [List.getElem_toArray, List.getElem_cons_zero, List.getElem_cons_succ, Act.put, List.setIfInBounds_toArray, List.set_cons_zero, List.set_cons_succ]
            refine wpAnyH_ready (rs := [7]) (by kernel_rfl) (List.cons_ne_nil _ _) ?_
            refine AllReadyH.cons rfl (fun K hK => ?_) AllReadyH.nil
            go_simp
            go_at_call 8
            refine (step_spec _ _ _ _ _ _ _ _ _ _ _ _ _ (rg_own (hS.2.2.2.2.2.2.2.2).d.o) (by omega)).mono ?_
            rintro e ubdpa ⟨a5, c5, rfl, hg, ho⟩
            have hU := Lib.hid (And.intro (step_more (⟨p, l, R, f, s, t⟩ : Bb) (tx, rx) (1 + v1) v2) (step_len (⟨p, l, R, f, s, t⟩ : Bb) (tx, rx) (1 + v1) v2))
            generalize stepOk (⟨p, l, R, f, s, t⟩ : Bb) (tx, rx) (1 + v1) v2 = D at *
            generalize stepB (⟨p, l, R, f, s, t⟩ : Bb) (tx, rx) (1 + v1) v2 = U at *
            have houbdpa := Lib.hid (And.intro ho (show C + 1 ≤ ubda.heap.size from (hS.2.2.2.2.2.2.2.2).d.b.lt))
            have hF := (hS.2.2.2.2.2.2.2.2).keep hg
            have hneA := Lib.hid (own_geX ho hxubda.out.lt)
            have hxubdpa := Lib.hid (hxubda.out.keep hg)
            clear ho
            refine hK.out _ _ (⟨(hF).d.b.c 0 rfl, (hF).d.b.c 1 rfl, (hF).d.b.c 2 rfl, (hF).d.b.c 3 rfl, (hF).d.b.c 4 rfl, (hF).d.b.c 5 rfl, (hF).x.c 0 rfl, (hF).x.c 1 rfl, hF⟩) (fun hS => ?_)
            clear hF hg
            clear hK
            try simp only [List.getElem_toArray, List.getElem_cons_zero, List.getElem_cons_succ, Act.put, List.setIfInBounds_toArray, List.set_cons_zero, List.set_cons_succ]
            refine wpAnyH_take (i := 8) (v := ?_) rfl (by kernel_rfl) (by kernel_rfl) (by kernel_rfl) (fun _ _ _ h => h) (Or.inl ⟨by kernel_rfl, ?_⟩) hS ?_
            rotate_left
            · intro w' hSw
              obtain ⟨g0, g1, g2, g3, g4, g5, g6, g7, _⟩ := hSw
              first | (go_simp; done) | (go_simp; with_reducible rfl)
            simp only [List.getElem_toArray, List.getElem_cons_zero, List.getElem_cons_succ, Act.put, List.setIfInBounds_toArray, List.set_cons_zero, List.set_cons_succ]
            refine wpAnyH_take (i := 9) (v := ?_) rfl (by kernel_rfl) (by kernel_rfl) (by kernel_rfl) (fun _ _ _ h => h) (Or.inl ⟨by kernel_rfl, ?_⟩) hS ?_
            rotate_left
            · intro w' hSw
              obtain ⟨g0, g1, g2, g3, g4, g5, g6, g7, _⟩ := hSw
              first | (go_simp; done) | (go_simp; with_reducible rfl)
            simp only [List.getElem_toArray, List.getElem_cons_zero, List.getElem_cons_succ, Act.put, List.setIfInBounds_toArray, List.set_cons_zero, List.set_cons_succ]
            refine wpAnyH_take (i := 10) (v := ?_) rfl (by kernel_rfl) (by kernel_rfl) (by kernel_rfl) (fun _ _ _ h => h) (Or.inl ⟨by kernel_rfl, ?_⟩) hS ?_
            rotate_left
            · intro w' hSw
              obtain ⟨g0, g1, g2, g3, g4, g5, g6, g7, _⟩ := hSw
              first | (go_simp; done) | (go_simp; with_reducible rfl)
            simp only [List.getElem_toArray, List.getElem_cons_zero, List.getElem_cons_succ, Act.put, List.setIfInBounds_toArray, List.set_cons_zero, List.set_cons_succ]
            refine wpAnyH_ready (rs := [12]) (by kernel_rfl) (List.cons_ne_nil _ _) ?_
            refine AllReadyH.cons rfl (fun K hK => ?_) AllReadyH.nil
            have z0 := hxubdpa.out.c 0 rfl
            have z1 := hxubdpa.out.c 1 rfl
            have z2 := hxubdpa.out.c 2 rfl
            have z3 := hxubdpa.out.c 3 rfl
            have z4 := hxubdpa.out.c 4 rfl
            have z5 := hxubdpa.out.c 5 rfl
            have f0 := hxubdpa.out.f 0
            have f1 := hxubdpa.out.f 1
            have f2 := hxubdpa.out.f 2
            have f3 := hxubdpa.out.f 3
            have f4 := hxubdpa.out.f 4
            have f5 := hxubdpa.out.f 5
            have lx := hxubdpa.out.lt
            go_simp
            refine gen_v (P := fun V => Rz w r C a c p l R f s t _ a5 c5 U V ∧ Bx V X 28 #[.int .i64 tx, .int .i64 rx]) ⟨rz_new (hS.2.2.2.2.2.2.2.2).d hxubdpa.out (Nat.lt_trans HCX.out.2 hbx.out) hna.out houbdpa.out.1 houbdpa.out.2 hneA.out, (hS.2.2.2.2.2.2.2.2).x.kept (gset6 _ _ _ _ _ _ _ _) (by have := hbx.out; simp; omega)⟩ (fun uz hp => ?_)
            have hpp := Lib.hid hp.1
            have hF : Ds w r C a c p l R f s t X tx rx uz := ⟨hp.1.d, hp.2, HCX.out.2⟩
            clear hp z0 f0 z1 f1 z2 f2 z3 f3 z4 f4 z5 f5 lx
            refine hK.out _ _ (⟨(hF).d.b.c 0 rfl, (hF).d.b.c 1 rfl, (hF).d.b.c 2 rfl, (hF).d.b.c 3 rfl, (hF).d.b.c 4 rfl, (hF).d.b.c 5 rfl, (hF).x.c 0 rfl, (hF).x.c 1 rfl, hF⟩) (fun hS => ?_)
            clear hF
            clear hK
            try simp only [List.getElem_toArray, List.getElem_cons_zero, List.getElem_cons_succ, Act.put, List.setIfInBounds_toArray, List.set_cons_zero, List.set_cons_succ]
            refine wpAnyH_take (i := 13) (v := ?_) rfl (by kernel_rfl) (by kernel_rfl) (by kernel_rfl) (fun _ _ _ h => h) (Or.inl ⟨by kernel_rfl, ?_⟩) hS ?_
            rotate_left
            · intro w' hSw
              obtain ⟨g0, g1, g2, g3, g4, g5, g6, g7, _⟩ := hSw
              first | (go_simp; done) | (go_simp; with_reducible rfl)
            simp only [List.getElem_toArray, List.getElem_cons_zero, List.getElem_cons_succ, Act.put, List.setIfInBounds_toArray, List.set_cons_zero, List.set_cons_succ]
            refine wpAnyH_done (by kernel_rfl) ?_ _
            go_wp2_with fail
            go_meet
            exact ⟨_, _, _, _, _, rfl, rfl, hpp.out, hU.out⟩
          exact AllReadyH.nil
        refine AllReadyH.cons rfl (fun K hK => ?_) ?_
        · go_simp
          refine gen_v (P := fun V => wb.grownBy V none ∧ Bx V wb.heap.size 26 (#[.int .i64 0, .slice none 0 0, .int .i64 0, .int .i64 0, .int .i64 0, .int .i64 0])) ⟨?_, ?_⟩ (fun ua hp => ?_)
          · first | with_reducible exact World.grownBy_alloc _ _ _ | with_reducible exact gA grownBy_drew _ | with_reducible exact grownBy_trans (World.grownBy_alloc _ _ _) grownBy_drew
          · first | with_reducible exact Bx.new _ _ _ | with_reducible exact (Bx.new _ _ _).keep grownBy_drew | exact Bx.new _ _ _
          have hF := (HD.out).keep hp.1
          have hxua := Lib.hid hp.2
          have hbx := Lib.hid (show X < wb.heap.size from (HD.out).x.lt)
          have hna := Lib.hid (own_ltX (HD.out).d.o (Nat.le_refl wb.heap.size))
          refine hK.out _ _ (⟨(hF).d.b.c 0 rfl, (hF).d.b.c 1 rfl, (hF).d.b.c 2 rfl, (hF).d.b.c 3 rfl, (hF).d.b.c 4 rfl, (hF).d.b.c 5 rfl, (hF).x.c 0 rfl, (hF).x.c 1 rfl, hF⟩) (fun hS => ?_)
          clear hF hp
          clear hK
          try simp only [List.getElem_toArray, List.getElem_cons_zero, List.getElem_cons_succ, Act.put, List.setIfInBounds_toArray, List.set_cons_zero, List.set_cons_succ]
          refine wpAnyH_ready (rs := [3]) (by kernel_rfl) (List.cons_ne_nil _ _) ?_
          refine AllReadyH.cons rfl (fun K hK => ?_) AllReadyH.nil
          go_simp
          go_at_call 37
          refine (below_any _ _ _ (hS.2.2.2.2.2.2.2.2).d.rd (by omega)).mono ?_
          rintro e uba ⟨v1, v10, v11, rfl, hg, hr⟩
          rw [if_neg (by omega)] at v11
          have hF := (hS.2.2.2.2.2.2.2.2).step hg hr
          have hwv1 : IntKind.i64.wrap (1 + v1) = 1 + v1 := IntWalk.i64_in _ (by omega)
          have hxuba := Lib.hid (hxua.out.kept hg (by have := hbx.out; have := HCX.out; simp; omega))
          refine hK.out _ _ (⟨(hF).d.b.c 0 rfl, (hF).d.b.c 1 rfl, (hF).d.b.c 2 rfl, (hF).d.b.c 3 rfl, (hF).d.b.c 4 rfl, (hF).d.b.c 5 rfl, (hF).x.c 0 rfl, (hF).x.c 1 rfl, hF⟩) (fun hS => ?_)
          clear hF hg hr
          clear hK
          try simp only [List.getElem_toArray, List.getElem_cons_zero, List.getElem_cons_succ, Act.put, List.setIfInBounds_toArray, List.set_cons_zero, List.set_cons_succ]
          refine wpAnyH_take (i := 4) (v := ?_) rfl (by kernel_rfl) (by kernel_rfl) (by kernel_rfl) (fun _ _ _ h => h) (Or.inl ⟨by kernel_rfl, ?_⟩) hS ?_
          rotate_left
          · intro w' hSw
            obtain ⟨g0, g1, g2, g3, g4, g5, g6, g7, _⟩ := hSw
            first | (go_simp; done) | (go_simp; with_reducible rfl)
          simp only [List.getElem_toArray, List.getElem_cons_zero, List.getElem_cons_succ, Act.put, List.setIfInBounds_toArray, List.set_cons_zero, List.set_cons_succ]
          refine wpAnyH_ready (rs := [6]) (by kernel_rfl) (List.cons_ne_nil _ _) ?_
          refine AllReadyH.cons rfl (fun K hK => ?_) AllReadyH.nil
          go_simp
          go_at_call 37
          refine (below_any _ _ _ (hS.2.2.2.2.2.2.2.2).d.rd (by omega)).mono ?_
          rintro e ubda ⟨v2, v20, v21, rfl, hg, hr⟩
          rw [if_neg (by omega)] at v21
          have hF := (hS.2.2.2.2.2.2.2.2).step hg hr
          have hxubda := Lib.hid (hxuba.out.kept hg (by have := hbx.out; have := HCX.out; simp; omega))
          refine hK.out _ _ (⟨(hF).d.b.c 0 rfl, (hF).d.b.c 1 rfl, (hF).d.b.c 2 rfl, (hF).d.b.c 3 rfl, (hF).d.b.c 4 rfl, (hF).d.b.c 5 rfl, (hF).x.c 0 rfl, (hF).x.c 1 rfl, hF⟩) (fun hS => ?_)
          clear hF hg hr
          clear hK
          try simp only [List.getElem_toArray, List.getElem_cons_zero, List.getElem_cons_succ, Act.put, List.setIfInBounds_toArray, List.set_cons_zero, List.set_cons_succ]
          refine wpAnyH_ready (rs := [7]) (by kernel_rfl) (List.cons_ne_nil _ _) ?_
          refine AllReadyH.cons rfl (fun K hK => ?_) AllReadyH.nil
          go_simp
          go_at_call 8
          refine (step_spec _ _ _ _ _ _ _ _ _ _ _ _ _ (rg_own (hS.2.2.2.2.2.2.2.2).d.o) (by omega)).mono ?_
          rintro e ubdpa ⟨a5, c5, rfl, hg, ho⟩
          have hU := Lib.hid (And.intro (step_more (⟨p, l, R, f, s, t⟩ : Bb) (tx, rx) (1 + v1) v2) (step_len (⟨p, l, R, f, s, t⟩ : Bb) (tx, rx) (1 + v1) v2))
          generalize stepOk (⟨p, l, R, f, s, t⟩ : Bb) (tx, rx) (1 + v1) v2 = D at *
          generalize stepB (⟨p, l, R, f, s, t⟩ : Bb) (tx, rx) (1 + v1) v2 = U at *
          have houbdpa := Lib.hid (And.intro ho (show C + 1 ≤ ubda.heap.size from (hS.2.2.2.2.2.2.2.2).d.b.lt))
          have hF := (hS.2.2.2.2.2.2.2.2).keep hg
          have hneA := Lib.hid (own_geX ho hxubda.out.lt)
          have hxubdpa := Lib.hid (hxubda.out.keep hg)
          clear ho
          refine hK.out _ _ (⟨(hF).d.b.c 0 rfl, (hF).d.b.c 1 rfl, (hF).d.b.c 2 rfl, (hF).d.b.c 3 rfl, (hF).d.b.c 4 rfl, (hF).d.b.c 5 rfl, (hF).x.c 0 rfl, (hF).x.c 1 rfl, hF⟩) (fun hS => ?_)
          clear hF hg
          clear hK
          try simp only [List.getElem_toArray, List.getElem_cons_zero, List.getElem_cons_succ, Act.put, List.setIfInBounds_toArray, List.set_cons_zero, List.set_cons_succ]
          refine wpAnyH_take (i := 8) (v := ?_) rfl (by kernel_rfl) (by kernel_rfl) (by kernel_rfl) (fun _ _ _ h => h) (Or.inl ⟨by kernel_rfl, ?_⟩) hS ?_
          rotate_left
          · intro w' hSw
            obtain ⟨g0, g1, g2, g3, g4, g5, g6, g7, _⟩ := hSw
            first | (go_simp; done) | (go_simp; with_reducible rfl)
          simp only [List.getElem_toArray, List.getElem_cons_zero, List.getElem_cons_succ, Act.put, List.setIfInBounds_toArray, List.set_cons_zero, List.set_cons_succ]
          refine wpAnyH_take (i := 9) (v := ?_) rfl (by kernel_rfl) (by kernel_rfl) (by kernel_rfl) (fun _ _ _ h => h) (Or.inl ⟨by kernel_rfl, ?_⟩) hS ?_
          rotate_left
          · intro w' hSw
            obtain ⟨g0, g1, g2, g3, g4, g5, g6, g7, _⟩ := hSw
            first | (go_simp; done) | (go_simp; with_reducible rfl)
          simp only [List.getElem_toArray, List.getElem_cons_zero, List.getElem_cons_succ, Act.put, List.setIfInBounds_toArray, List.set_cons_zero, List.set_cons_succ]
          refine wpAnyH_take (i := 10) (v := ?_) rfl (by kernel_rfl) (by kernel_rfl) (by kernel_rfl) (fun _ _ _ h => h) (Or.inl ⟨by kernel_rfl, ?_⟩) hS ?_
          rotate_left
          · intro w' hSw
            obtain ⟨g0, g1, g2, g3, g4, g5, g6, g7, _⟩ := hSw
            first | (go_simp; done) | (go_simp; with_reducible rfl)
          simp only [List.getElem_toArray, List.getElem_cons_zero, List.getElem_cons_succ, Act.put, List.setIfInBounds_toArray, List.set_cons_zero, List.set_cons_succ]
          refine wpAnyH_ready (rs := [12]) (by kernel_rfl) (List.cons_ne_nil _ _) ?_
          refine AllReadyH.cons rfl (fun K hK => ?_) AllReadyH.nil
          have z0 := hxubdpa.out.c 0 rfl
          have z1 := hxubdpa.out.c 1 rfl
          have z2 := hxubdpa.out.c 2 rfl
          have z3 := hxubdpa.out.c 3 rfl
          have z4 := hxubdpa.out.c 4 rfl
          have z5 := hxubdpa.out.c 5 rfl
          have f0 := hxubdpa.out.f 0
          have f1 := hxubdpa.out.f 1
          have f2 := hxubdpa.out.f 2
          have f3 := hxubdpa.out.f 3
          have f4 := hxubdpa.out.f 4
          have f5 := hxubdpa.out.f 5
          have lx := hxubdpa.out.lt
          go_simp
          refine gen_v (P := fun V => Rz w r C a c p l R f s t _ a5 c5 U V ∧ Bx V X 28 #[.int .i64 tx, .int .i64 rx]) ⟨rz_new (hS.2.2.2.2.2.2.2.2).d hxubdpa.out (Nat.lt_trans HCX.out.2 hbx.out) hna.out houbdpa.out.1 houbdpa.out.2 hneA.out, (hS.2.2.2.2.2.2.2.2).x.kept (gset6 _ _ _ _ _ _ _ _) (by have := hbx.out; simp; omega)⟩ (fun uz hp => ?_)
          have hpp := Lib.hid hp.1
          have hF : Ds w r C a c p l R f s t X tx rx uz := ⟨hp.1.d, hp.2, HCX.out.2⟩
          clear hp z0 f0 z1 f1 z2 f2 z3 f3 z4 f4 z5 f5 lx
          refine hK.out _ _ (⟨(hF).d.b.c 0 rfl, (hF).d.b.c 1 rfl, (hF).d.b.c 2 rfl, (hF).d.b.c 3 rfl, (hF).d.b.c 4 rfl, (hF).d.b.c 5 rfl, (hF).x.c 0 rfl, (hF).x.c 1 rfl, hF⟩) (fun hS => ?_)
          clear hF
          clear hK
          try simp only [List.getElem_toArray, List.getElem_cons_zero, List.getElem_cons_succ, Act.put, List.setIfInBounds_toArray, List.set_cons_zero, List.set_cons_succ]
          refine wpAnyH_take (i := 13) (v := ?_) rfl (by kernel_rfl) (by kernel_rfl) (by kernel_rfl) (fun _ _ _ h => h) (Or.inl ⟨by kernel_rfl, ?_⟩) hS ?_
          rotate_left
          · intro w' hSw
            obtain ⟨g0, g1, g2, g3, g4, g5, g6, g7, _⟩ := hSw
            first | (go_simp; done) | (go_simp; with_reducible rfl)
          simp only [List.getElem_toArray, List.getElem_cons_zero, List.getElem_cons_succ, Act.put, List.setIfInBounds_toArray, List.set_cons_zero, List.set_cons_succ]
          refine wpAnyH_done (by kernel_rfl) ?_ _
          go_wp2_with fail
          go_meet
          exact ⟨_, _, _, _, _, rfl, rfl, hpp.out, hU.out⟩
        exact AllReadyH.nil
      case rest =>
        obtain ⟨B5, a5, c5, U, D, rfl, rfl, hz, hu1, hu2⟩ := hcut
        have HZ := Lib.hid hz
        clear hz HD HCX
        generalize hwc : wc = w8 at *
        clear hwc
        cases D
        · go_wp2_with fail
          go_roundw
          case rel => exact ⟨a, c, p, l, R, f, s, t, k - 1, by first | rfl | go_num, by omega, by omega, HZ.out.d⟩
          case measure => simp [intOf]; omega
        · obtain ⟨P', L', R', F', S', T'⟩ := U
          have HT := Lib.hid (Dw.take (p' := P') (R' := R') (f' := F') (s' := S') (t' := T') HZ.out.d HZ.out.o hu2)
          dsimp only at hu1 hu2
          have b0 := (HZ.out.d.b).c 0 rfl
          have b1 := (HZ.out.d.b).c 1 rfl
          have b2 := (HZ.out.d.b).c 2 rfl
          have b3 := (HZ.out.d.b).c 3 rfl
          have b4 := (HZ.out.d.b).c 4 rfl
          have b5 := (HZ.out.d.b).c 5 rfl
          have bf0 := (HZ.out.d.b).f 0
          have bf1 := (HZ.out.d.b).f 1
          have bf2 := (HZ.out.d.b).f 2
          have bf3 := (HZ.out.d.b).f 3
          have bf4 := (HZ.out.d.b).f 4
          have bf5 := (HZ.out.d.b).f 5
          have n0 := (HZ.out.n).c 0 rfl
          have n1 := (HZ.out.n).c 1 rfl
          have n2 := (HZ.out.n).c 2 rfl
          have n3 := (HZ.out.n).c 3 rfl
          have n4 := (HZ.out.n).c 4 rfl
          have n5 := (HZ.out.n).c 5 rfl
          dsimp only at n0 n1 n2 n3 n4 n5
          go_wp2_with fail
          go_roundw
          case rel => exact ⟨a5, c5, P', L', R', F', S', T', k - 1, by first | rfl | go_num, by omega, by omega, HT.out⟩
          case measure => simp [intOf]; omega
    · go_wp2_with fail
      refine (once_any _ _ _ HS.out.rd (by omega) (by omega)).mono ?_
      rintro e w6 ⟨o, rfl, hg, hr⟩
      have H6 := Lib.hid (HS.out.step hg hr)
      clear hg hr HS
      cases o
      · have b0 := H6.out.b.c 0 rfl
        have b1 := (H6.out.b).c 1 rfl
        have b2 := (H6.out.b).c 2 rfl
        have b3 := (H6.out.b).c 3 rfl
        have b4 := (H6.out.b).c 4 rfl
        have b5 := (H6.out.b).c 5 rfl
        have z0 := (H6.out.res).c 0 rfl
        have z1 := (H6.out.res).c 1 rfl
        have z2 := (H6.out.res).c 2 rfl
        have z3 := (H6.out.res).c 3 rfl
        have z4 := (H6.out.res).c 4 rfl
        have z5 := (H6.out.res).c 5 rfl
        have zf0 := (H6.out.res).f 0
        have zf1 := (H6.out.res).f 1
        have zf2 := (H6.out.res).f 2
        have zf3 := (H6.out.res).f 3
        have zf4 := (H6.out.res).f 4
        have zf5 := (H6.out.res).f 5
        go_wp2_with fail
        exact bodyPost_ret (v := bbV p a l.length c R f s t) (by simp [results, Try.results18, go_sem, z0, z1, z2, z3, z4, z5]) rfl (H6.out.fin hl12)
      · go_wp2_with fail
        refine (off_w _ _ _ _ H6.out.rd ⟨by decide, by decide⟩ (wf_of (by decide) (by decide))).mono ?_
        rintro e w7 ⟨y, hy, rfl, hg, hr⟩
        have H7 := Lib.hid (H6.out.step hg hr)
        have H8 := Lib.hid (H7.out.still y)
        clear hg hr hy H6
        have c4 := H7.out.b.c 4 rfl
        have cf := H7.out.b.f 4
        have b0 := (H8.out.b).c 0 rfl
        have b1 := (H8.out.b).c 1 rfl
        have b2 := (H8.out.b).c 2 rfl
        have b3 := (H8.out.b).c 3 rfl
        have b4 := (H8.out.b).c 4 rfl
        have b5 := (H8.out.b).c 5 rfl
        have z0 := (H8.out.res).c 0 rfl
        have z1 := (H8.out.res).c 1 rfl
        have z2 := (H8.out.res).c 2 rfl
        have z3 := (H8.out.res).c 3 rfl
        have z4 := (H8.out.res).c 4 rfl
        have z5 := (H8.out.res).c 5 rfl
        have zf0 := (H8.out.res).f 0
        have zf1 := (H8.out.res).f 1
        have zf2 := (H8.out.res).f 2
        have zf3 := (H8.out.res).f 3
        have zf4 := (H8.out.res).f 4
        have zf5 := (H8.out.res).f 5
        go_wp2_with fail
        exact bodyPost_ret (v := bbV p a l.length c R f y t) (by simp [results, Try.results18, go_sem, z0, z1, z2, z3, z4, z5]) rfl (H8.out.fin hl12)

end Go.Proofs.Yteomllgkcolmhaa
