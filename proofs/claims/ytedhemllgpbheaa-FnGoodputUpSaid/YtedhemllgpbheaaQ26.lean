/- Wr -/
import Derived.Test.YtedhemllgpbheaaQ25
namespace Go.Proofs.Ytedhemllgpbheaa
open Go.RowKit
open P7 (Pk PkAt pksV)

section
variable {w W W' : World} {B : Nat} {X : List Nat} {bs : List (Nat × TypeId × Array Value)} {sa : Option Addr} {sc : Nat} {sl : List Rg} {ga : Option Addr} {gc : Nat} {gl : List Pk} {da : Option Addr} {dc : Nat} {dl : List Rg} {ua : Option Addr} {uc : Nat} {ul : List Nt} {na : Option Addr} {nc : Nat} {nl : List Nt}
theorem Sw.b6 {b0 b1 b2 b3 b4 b5 : Nat × TypeId × Array Value} {C : Nat} {T : TypeId} {xs : Array Value} (h : Sw w B X (b0 :: b1 :: b2 :: b3 :: b4 :: b5 :: (C, T, xs) :: bs) sa sc sl ga gc gl da dc dl ua uc ul na nc nl W) : Bx W C T xs := h.b (C, T, xs) (by simp)
theorem Sw.p6 {b0 b1 b2 b3 b4 b5 : Nat × TypeId × Array Value} {C : Nat} {T : TypeId} {xs : Array Value} (h : Sw w B X (b0 :: b1 :: b2 :: b3 :: b4 :: b5 :: (C, T, xs) :: bs) sa sc sl ga gc gl da dc dl ua uc ul na nc nl W) (i : Nat) (v : Value) : Sw w B X (b0 :: b1 :: b2 :: b3 :: b4 :: b5 :: (C, T, xs.setIfInBounds i v) :: bs) sa sc sl ga gc gl da dc dl ua uc ul na nc nl (W.setCell ⟨C, i, none⟩ v) := Sw.put [b0, b1, b2, b3, b4, b5] h i v rfl
theorem Sw.b7 {b0 b1 b2 b3 b4 b5 b6 : Nat × TypeId × Array Value} {C : Nat} {T : TypeId} {xs : Array Value} (h : Sw w B X (b0 :: b1 :: b2 :: b3 :: b4 :: b5 :: b6 :: (C, T, xs) :: bs) sa sc sl ga gc gl da dc dl ua uc ul na nc nl W) : Bx W C T xs := h.b (C, T, xs) (by simp)
theorem Sw.p7 {b0 b1 b2 b3 b4 b5 b6 : Nat × TypeId × Array Value} {C : Nat} {T : TypeId} {xs : Array Value} (h : Sw w B X (b0 :: b1 :: b2 :: b3 :: b4 :: b5 :: b6 :: (C, T, xs) :: bs) sa sc sl ga gc gl da dc dl ua uc ul na nc nl W) (i : Nat) (v : Value) : Sw w B X (b0 :: b1 :: b2 :: b3 :: b4 :: b5 :: b6 :: (C, T, xs.setIfInBounds i v) :: bs) sa sc sl ga gc gl da dc dl ua uc ul na nc nl (W.setCell ⟨C, i, none⟩ v) := Sw.put [b0, b1, b2, b3, b4, b5, b6] h i v rfl
end
/-- Where the board's row lies, told of the row alone. -/
def BrN (w : World) (sa : Option Addr) (sc : Nat) (sl : List Rg) (a : Option Addr) (c : Nat) (l : List Rg) : Prop := l.length ≤ 1000 ∧ ((a = sa ∧ c = sc ∧ l = sl) ∨ ∀ b, bkA a = some b → w.heap.size ≤ b)
def HdPost (w : World) (sa : Option Addr) (sc : Nat) (sl : List Rg) (e : Ending) (w' : World) : Prop :=
  ∃ (u2 n2 : Int) (sa2 : Option Addr) (sc2 : Nat) (sl2 : List Rg) (m2 y2 z2 p2 d2 o2 g2 : Int) (b : Bool), e = .returned (.tuple #[bdV u2 n2 sa2 sl2.length sc2, .agg #[.int .i64 m2, .int .i64 y2, .int .i64 z2, .int .i64 p2, .int .i64 d2, .int .i64 o2, .int .i64 g2], .bool b]) ∧ w.grownBy w' none ∧ RowOk w' sa2 sc2 sl2 ∧ (∀ b, bkA sa2 = some b → b < w'.heap.size) ∧ BrN w sa sc sl sa2 sc2 sl2
theorem gen_wr {K : World → Prop} {P : World → Prop} {W : World} (h : P W) (f : ∀ V, P V → K V) : K W := f W h
theorem LwAt.board (w : World) {sa : Option Addr} {sc : Nat} {sl : List Rg} (h : RowOk w sa sc sl) (hs : ∀ b, bkA sa = some b → b < w.heap.size) : LwAt w w.heap.size [] sa sc sl none 0 [] none 0 [] none 0 [] none 0 [] :=
  (LwAt.nil w w.heap.size [] (by simp)).setS h ⟨hs, fun _ _ => by simp, fun _ h => (by cases h), fun _ h => (by cases h), fun _ h => (by cases h)⟩

set_option maxRecDepth 100000 in
set_option maxHeartbeats 8000000 in
theorem heard_A (u n : Int) (sa : Option Addr) (sc : Nat) (sl : List Rg) (m y z p d o g : Int) (xk xf xn : Int) (xa : Option Addr) (xc : Nat) (xl : List Rg) (w : World) (h : RowOk w sa sc sl) (hs : ∀ b, bkA sa = some b → b < w.heap.size) (hsl : sl.length ≤ 1000) (hx : RgAt w xa xl) (hxl : xl.length ≤ 1000) (hrn : rnOk ⟨m, y, z, p, d, o, g⟩ = true) (hu0 : 0 ≤ u) (hun : u ≤ n) (hn9 : n ≤ 1000000000) (hxf0 : 0 ≤ xf) (hxf1 : xf ≤ 1000000000) (hA1 : u < xf) (hA2 : xf ≤ n) :
    Calls Try.prog 48 #[.agg #[.int .i64 u, .int .i64 n, .slice sa sl.length sc], .agg #[.int .i64 m, .int .i64 y, .int .i64 z, .int .i64 p, .int .i64 d, .int .i64 o, .int .i64 g], .agg #[.int .i64 xk, .int .i64 xf, .int .i64 xn, .slice xa xl.length xc]] w (HdPost w sa sc sl) := by
  have HX := Lib.hid (And.intro hx hxl)
  have HB0 := Lib.hid hsl
  have _ := And.intro hu0 (And.intro hun (And.intro hn9 (And.intro hxf0 hxf1)))
  have _ := hrn
  have hw : IntKind.i64.wrap (n - u) = n - u := IntWalk.i64_in _ (by omega)
  obtain ⟨C0, hC0⟩ : ∃ C, C = w.heap.size := ⟨_, rfl⟩
  obtain ⟨C1, hC1⟩ : ∃ C, C = w.heap.size + 1 := ⟨_, rfl⟩
  obtain ⟨C2, hC2⟩ : ∃ C, C = w.heap.size + 1 + 1 := ⟨_, rfl⟩
  obtain ⟨C3, hC3⟩ : ∃ C, C = w.heap.size + 1 + 1 + 1 := ⟨_, rfl⟩
  obtain ⟨C4, hC4⟩ : ∃ C, C = w.heap.size + 1 + 1 + 1 + 1 := ⟨_, rfl⟩
  have k := ((((((Sw.start (LwAt.board w h hs) (Nat.le_refl _)).new 50 #[.int .i64 u, .int .i64 n, .slice sa sl.length sc]).new 48 #[.int .i64 m, .int .i64 y, .int .i64 z, .int .i64 p, .int .i64 d, .int .i64 o, .int .i64 g]).new 33 #[.int .i64 xk, .int .i64 xf, .int .i64 xn, .slice xa xl.length xc]).new 50 #[.int .i64 0, .int .i64 0, .slice none 0 0]).new 48 #[.int .i64 0, .int .i64 0, .int .i64 0, .int .i64 0, .int .i64 0, .int .i64 0, .int .i64 0])
  simp only [World.size_alloc] at k
  rw [← hC4, ← hC3, ← hC2, ← hC1, ← hC0] at k
  have H0 := Lib.hid k
  clear k h hs
  go_enter Try.func48, Try.ntmps48
  go_upto_region 1 with fail
  try simp only [World.size_alloc]
  try rw [← hC4]
  try rw [← hC3]
  try rw [← hC2]
  try rw [← hC1]
  try rw [← hC0]
  have HCC := Lib.hid hC0
  clear hC0 hC1 hC2 hC3 hC4
  generalize (((((w.alloc (.cells #[.int .i64 u, .int .i64 n, .slice sa sl.length sc] 50)).alloc (.cells #[.int .i64 m, .int .i64 y, .int .i64 z, .int .i64 p, .int .i64 d, .int .i64 o, .int .i64 g] 48)).alloc (.cells #[.int .i64 xk, .int .i64 xf, .int .i64 xn, .slice xa xl.length xc] 33)).alloc (.cells #[.int .i64 0, .int .i64 0, .slice none 0 0] 50)).alloc (.cells #[.int .i64 0, .int .i64 0, .int .i64 0, .int .i64 0, .int .i64 0, .int .i64 0, .int .i64 0] 48)) = W0 at *
  have c0 : (W0).cell? ⟨C1, 0, none⟩ = some (.int .i64 m) := H0.out.b3.c 0 rfl
  have c1 : (W0).cell? ⟨C1, 1, none⟩ = some (.int .i64 y) := H0.out.b3.c 1 rfl
  have c2 : (W0).cell? ⟨C1, 2, none⟩ = some (.int .i64 z) := H0.out.b3.c 2 rfl
  have c3 : (W0).cell? ⟨C1, 3, none⟩ = some (.int .i64 p) := H0.out.b3.c 3 rfl
  have c4 : (W0).cell? ⟨C1, 4, none⟩ = some (.int .i64 d) := H0.out.b3.c 4 rfl
  have c5 : (W0).cell? ⟨C1, 5, none⟩ = some (.int .i64 o) := H0.out.b3.c 5 rfl
  have c6 : (W0).cell? ⟨C1, 6, none⟩ = some (.int .i64 g) := H0.out.b3.c 6 rfl
  have H1 := Lib.hid (H0.out.new 48 #[.int .i64 m, .int .i64 y, .int .i64 z, .int .i64 p, .int .i64 d, .int .i64 o, .int .i64 g])
  go_upto_region 2 with fail
  clear H0 c0 c1 c2 c3 c4 c5 c6
  generalize W0.alloc (.cells #[.int .i64 m, .int .i64 y, .int .i64 z, .int .i64 p, .int .i64 d, .int .i64 o, .int .i64 g] 48) = W1 at *
  generalize W0.heap.size = C5 at *
  have x1 : (W1).cell? ⟨C2, 1, none⟩ = some (.int .i64 xf) := H1.out.b3.c 1 rfl
  have c0 : (W1).cell? ⟨C0, 0, none⟩ = some (.int .i64 u) := H1.out.b5.c 0 rfl
  have c1 : (W1).cell? ⟨C0, 1, none⟩ = some (.int .i64 n) := H1.out.b5.c 1 rfl
  have H2 := Lib.hid (H1.out.new 90 #[.int .i64 2, .int .i64 0, .int .i64 xf, .int .i64 (n - u), .int .i64 n])
  go_upto_region 3 with fail
  clear H1 x1 c0 c1
  generalize W1.alloc (.cells #[.int .i64 2, .int .i64 0, .int .i64 xf, .int .i64 (n - u), .int .i64 n] 90) = W2 at *
  generalize W1.heap.size = C6 at *
  have x1 : (W2).cell? ⟨C2, 1, none⟩ = some (.int .i64 xf) := H2.out.b4.c 1 rfl
  have c0 : (W2).cell? ⟨C0, 0, none⟩ = some (.int .i64 u) := H2.out.b6.c 0 rfl
  have c1 : (W2).cell? ⟨C0, 1, none⟩ = some (.int .i64 n) := H2.out.b6.c 1 rfl
  have hw2 : IntKind.i64.wrap (xf - u) = xf - u := IntWalk.i64_in _ (by omega)
  have c2 : (W2).cell? ⟨C0, 2, none⟩ = some (.slice sa sl.length sc) := H2.out.b6.c 2 rfl
  have e0 : (W2).cell? ⟨C6, 0, none⟩ = some (.int .i64 2) := H2.out.b0.c 0 rfl
  have e1 : (W2).cell? ⟨C6, 1, none⟩ = some (.int .i64 0) := H2.out.b0.c 1 rfl
  have f0 := H2.out.b0.f 0
  have f1 := H2.out.b0.f 1
  have lr := H2.out.b0.lt
  have k1_0 : Sw w C0 [] [(C6, 90, #[.int .i64 1, .int .i64 0, .int .i64 xf, .int .i64 (n - u), .int .i64 n]), (C5, 48, #[.int .i64 m, .int .i64 y, .int .i64 z, .int .i64 p, .int .i64 d, .int .i64 o, .int .i64 g]), (C4, 48, #[.int .i64 0, .int .i64 0, .int .i64 0, .int .i64 0, .int .i64 0, .int .i64 0, .int .i64 0]), (C3, 50, #[.int .i64 0, .int .i64 0, .slice none 0 0]), (C2, 33, #[.int .i64 xk, .int .i64 xf, .int .i64 xn, .slice xa xl.length xc]), (C1, 48, #[.int .i64 m, .int .i64 y, .int .i64 z, .int .i64 p, .int .i64 d, .int .i64 o, .int .i64 g]), (C0, 50, #[.int .i64 u, .int .i64 n, .slice sa sl.length sc])] sa sc sl none 0 [] none 0 [] none 0 [] none 0 [] (W2.setCell ⟨C6, 0, none⟩ (.int .i64 1)) := H2.out.p0 0 (.int .i64 1)
  have HA0 := Lib.hid k1_0
  clear k1_0
  go_upto_region 5 with fail
  clear x1 c0 c1 c2 e0 e1 f0 f1 lr H2
  generalize (W2.setCell ⟨C6, 0, none⟩ (.int .i64 1)) = W2b at *
  have x1 : (W2b).cell? ⟨C2, 1, none⟩ = some (.int .i64 xf) := HA0.out.b4.c 1 rfl
  have c0 : (W2b).cell? ⟨C0, 0, none⟩ = some (.int .i64 u) := HA0.out.b6.c 0 rfl
  have e1 : (W2b).cell? ⟨C6, 1, none⟩ = some (.int .i64 0) := HA0.out.b0.c 1 rfl
  have f1 := HA0.out.b0.f 1
  have lr := HA0.out.b0.lt
  have k2_1 : Sw w C0 [] [(C6, 90, #[.int .i64 1, .int .i64 (xf - u), .int .i64 xf, .int .i64 (n - u), .int .i64 n]), (C5, 48, #[.int .i64 m, .int .i64 y, .int .i64 z, .int .i64 p, .int .i64 d, .int .i64 o, .int .i64 g]), (C4, 48, #[.int .i64 0, .int .i64 0, .int .i64 0, .int .i64 0, .int .i64 0, .int .i64 0, .int .i64 0]), (C3, 50, #[.int .i64 0, .int .i64 0, .slice none 0 0]), (C2, 33, #[.int .i64 xk, .int .i64 xf, .int .i64 xn, .slice xa xl.length xc]), (C1, 48, #[.int .i64 m, .int .i64 y, .int .i64 z, .int .i64 p, .int .i64 d, .int .i64 o, .int .i64 g]), (C0, 50, #[.int .i64 u, .int .i64 n, .slice sa sl.length sc])] sa sc sl none 0 [] none 0 [] none 0 [] none 0 [] (W2b.setCell ⟨C6, 1, none⟩ (.int .i64 (xf - u))) := HA0.out.p0 1 (.int .i64 (xf - u))
  have HA1 := Lib.hid k2_1
  clear k2_1
  go_upto_region 6 with fail
  clear x1 c0 e1 f1 lr HA0
  generalize (W2b.setCell ⟨C6, 1, none⟩ (.int .i64 (xf - u))) = W3 at *
  have x1 : (W3).cell? ⟨C2, 1, none⟩ = some (.int .i64 xf) := HA1.out.b4.c 1 rfl
  have c0 : (W3).cell? ⟨C0, 0, none⟩ = some (.int .i64 u) := HA1.out.b6.c 0 rfl
  have c1 : (W3).cell? ⟨C0, 1, none⟩ = some (.int .i64 n) := HA1.out.b6.c 1 rfl
  have c2 : (W3).cell? ⟨C0, 2, none⟩ = some (.slice sa sl.length sc) := HA1.out.b6.c 2 rfl
  go_wp2_with fail
  refine (ack_spec u n sa sc sl xf _ HA1.out.l.s (by omega)).mono ?_
  rintro e W4 ⟨a1, c1r, rfl, hg, ho⟩
  have hl1 := ackL_len u n sl xf
  generalize ackL u n sl xf = Q1 at *
  obtain ⟨u1, n1, l1, b1⟩ := Q1
  dsimp only at ho hl1 ⊢
  have HA2 := Lib.hid (HA1.out.newS hg ho)
  have HBR := Lib.hid (show BrN w sa sc sl a1 c1r l1 from ⟨by omega, .inr fun b hb => Nat.le_trans HA1.out.k.size (own_lt ho b hb).1⟩)
  clear hg ho hl1 x1 c0 c1 c2 HA1
  have c0 : (W4).cell? ⟨C0, 0, none⟩ = some (.int .i64 u) := HA2.out.b6.c 0 rfl
  have c1 : (W4).cell? ⟨C0, 1, none⟩ = some (.int .i64 n) := HA2.out.b6.c 1 rfl
  have c2 : (W4).cell? ⟨C0, 2, none⟩ = some (.slice sa sl.length sc) := HA2.out.b6.c 2 rfl
  have f0 := HA2.out.b6.f 0
  have f1 := HA2.out.b6.f 1
  have f2 := HA2.out.b6.f 2
  have lr := HA2.out.b6.lt
  have k3_0 : Sw w C0 [] [(C6, 90, #[.int .i64 1, .int .i64 (xf - u), .int .i64 xf, .int .i64 (n - u), .int .i64 n]), (C5, 48, #[.int .i64 m, .int .i64 y, .int .i64 z, .int .i64 p, .int .i64 d, .int .i64 o, .int .i64 g]), (C4, 48, #[.int .i64 0, .int .i64 0, .int .i64 0, .int .i64 0, .int .i64 0, .int .i64 0, .int .i64 0]), (C3, 50, #[.int .i64 0, .int .i64 0, .slice none 0 0]), (C2, 33, #[.int .i64 xk, .int .i64 xf, .int .i64 xn, .slice xa xl.length xc]), (C1, 48, #[.int .i64 m, .int .i64 y, .int .i64 z, .int .i64 p, .int .i64 d, .int .i64 o, .int .i64 g]), (C0, 50, #[.int .i64 u1, .int .i64 n, .slice sa sl.length sc])] a1 c1r l1 none 0 [] none 0 [] none 0 [] none 0 [] (W4.setCell ⟨C0, 0, none⟩ (.int .i64 u1)) := HA2.out.p6 0 (.int .i64 u1)
  have k3_1 : Sw w C0 [] [(C6, 90, #[.int .i64 1, .int .i64 (xf - u), .int .i64 xf, .int .i64 (n - u), .int .i64 n]), (C5, 48, #[.int .i64 m, .int .i64 y, .int .i64 z, .int .i64 p, .int .i64 d, .int .i64 o, .int .i64 g]), (C4, 48, #[.int .i64 0, .int .i64 0, .int .i64 0, .int .i64 0, .int .i64 0, .int .i64 0, .int .i64 0]), (C3, 50, #[.int .i64 0, .int .i64 0, .slice none 0 0]), (C2, 33, #[.int .i64 xk, .int .i64 xf, .int .i64 xn, .slice xa xl.length xc]), (C1, 48, #[.int .i64 m, .int .i64 y, .int .i64 z, .int .i64 p, .int .i64 d, .int .i64 o, .int .i64 g]), (C0, 50, #[.int .i64 u1, .int .i64 n1, .slice sa sl.length sc])] a1 c1r l1 none 0 [] none 0 [] none 0 [] none 0 [] ((W4.setCell ⟨C0, 0, none⟩ (.int .i64 u1)).setCell ⟨C0, 1, none⟩ (.int .i64 n1)) := k3_0.p6 1 (.int .i64 n1)
  have k3_2 : Sw w C0 [] [(C6, 90, #[.int .i64 1, .int .i64 (xf - u), .int .i64 xf, .int .i64 (n - u), .int .i64 n]), (C5, 48, #[.int .i64 m, .int .i64 y, .int .i64 z, .int .i64 p, .int .i64 d, .int .i64 o, .int .i64 g]), (C4, 48, #[.int .i64 0, .int .i64 0, .int .i64 0, .int .i64 0, .int .i64 0, .int .i64 0, .int .i64 0]), (C3, 50, #[.int .i64 0, .int .i64 0, .slice none 0 0]), (C2, 33, #[.int .i64 xk, .int .i64 xf, .int .i64 xn, .slice xa xl.length xc]), (C1, 48, #[.int .i64 m, .int .i64 y, .int .i64 z, .int .i64 p, .int .i64 d, .int .i64 o, .int .i64 g]), (C0, 50, #[.int .i64 u1, .int .i64 n1, .slice a1 l1.length c1r])] a1 c1r l1 none 0 [] none 0 [] none 0 [] none 0 [] (((W4.setCell ⟨C0, 0, none⟩ (.int .i64 u1)).setCell ⟨C0, 1, none⟩ (.int .i64 n1)).setCell ⟨C0, 2, none⟩ (.slice a1 l1.length c1r)) := k3_1.p6 2 (.slice a1 l1.length c1r)
  have HA3 := Lib.hid k3_2
  clear k3_0 k3_1 k3_2
  go_upto_region 9 with fail
  clear lr HA2 c0 f0 c1 f1 c2 f2
  generalize (((W4.setCell ⟨C0, 0, none⟩ (.int .i64 u1)).setCell ⟨C0, 1, none⟩ (.int .i64 n1)).setCell ⟨C0, 2, none⟩ (.slice a1 l1.length c1r)) = W5 at *
  have hev : evOk ⟨1, xf - u, xf, n - u, n⟩ = true := by simp [evOk]; omega
  have c0 : (W5).cell? ⟨C0, 0, none⟩ = some (.int .i64 u1) := HA3.out.b6.c 0 rfl
  have c1 : (W5).cell? ⟨C0, 1, none⟩ = some (.int .i64 n1) := HA3.out.b6.c 1 rfl
  have c2 : (W5).cell? ⟨C0, 2, none⟩ = some (.slice a1 l1.length c1r) := HA3.out.b6.c 2 rfl
  have x3 : (W5).cell? ⟨C2, 3, none⟩ = some (.slice xa xl.length xc) := HA3.out.b4.c 3 rfl
  go_wp2_with fail
  refine (sack_spec u1 n1 a1 c1r l1 xa xc xl _ HA3.out.l.s (by have := HBR.out.1; omega) (HX.out.1.kept (HA3.out.k.grown (World.grownBy.refl _ _) (Nat.le_of_eq HCC.out.symm))) (by have := HX.out.2; omega)).mono ?_
  rintro e V3 ⟨a6, cp6, rfl, hg, ho⟩
  have hl6 := sackL_len u1 n1 l1 xl
  generalize sackL u1 n1 l1 xl = Q6 at *
  obtain ⟨u6, n6, l6, b6⟩ := Q6
  dsimp only at ho hl6 ⊢
  have HA := Lib.hid ((HA3.out.keep hg).new 50 #[.int .i64 u6, .int .i64 n6, .slice a6 l6.length cp6])
  have HB := Lib.hid ((HA3.out.newS hg ho).new 50 #[.int .i64 u6, .int .i64 n6, .slice a6 l6.length cp6])
  have HB6 := Lib.hid (show BrN w sa sc sl a6 cp6 l6 from ⟨by omega, .inr fun b hb => Nat.le_trans HA3.out.k.size (own_lt ho b hb).1⟩)
  clear hg ho hl6 c0 c1 c2 x3
  go_upto_region 10 with fail
  generalize V3.alloc (.cells #[.int .i64 u6, .int .i64 n6, .slice a6 l6.length cp6] 50) = V4 at *
  generalize V3.heap.size = C7 at *
  cases b6
  · have c0 : (V4).cell? ⟨C1, 0, none⟩ = some (.int .i64 m) := HA.out.b6.c 0 rfl
    have c1 : (V4).cell? ⟨C1, 1, none⟩ = some (.int .i64 y) := HA.out.b6.c 1 rfl
    have c2 : (V4).cell? ⟨C1, 2, none⟩ = some (.int .i64 z) := HA.out.b6.c 2 rfl
    have c3 : (V4).cell? ⟨C1, 3, none⟩ = some (.int .i64 p) := HA.out.b6.c 3 rfl
    have c4 : (V4).cell? ⟨C1, 4, none⟩ = some (.int .i64 d) := HA.out.b6.c 4 rfl
    have c5 : (V4).cell? ⟨C1, 5, none⟩ = some (.int .i64 o) := HA.out.b6.c 5 rfl
    have c6 : (V4).cell? ⟨C1, 6, none⟩ = some (.int .i64 g) := HA.out.b6.c 6 rfl
    have e0 : (V4).cell? ⟨C6, 0, none⟩ = some (.int .i64 1) := HA.out.b1.c 0 rfl
    have e1 : (V4).cell? ⟨C6, 1, none⟩ = some (.int .i64 (xf - u)) := HA.out.b1.c 1 rfl
    have e2 : (V4).cell? ⟨C6, 2, none⟩ = some (.int .i64 xf) := HA.out.b1.c 2 rfl
    have e3 : (V4).cell? ⟨C6, 3, none⟩ = some (.int .i64 (n - u)) := HA.out.b1.c 3 rfl
    have e4 : (V4).cell? ⟨C6, 4, none⟩ = some (.int .i64 n) := HA.out.b1.c 4 rfl
    go_wp2_with fail
    refine (rs_stepL m y z p d o g 1 (xf - u) xf (n - u) n _ hrn hev).mono ?_
    rintro e V5 ⟨rfl, hg⟩
    have H8 := Lib.hid (HA.out.keep hg)
    try clear hw2
    clear hev hrn hw
    try clear hA1 hA2
    try clear hB2
    try clear hun hn9 hxf0 hxf1 hu0 hsl hxl
    clear hg c0 c1 c2 c3 c4 c5 c6 e0 e1 e2 e3 e4
    obtain ⟨Q, hQ⟩ : ∃ Q, rnStep ⟨m, y, z, p, d, o, g⟩ ⟨1, (xf - u), xf, (n - u), n⟩ = Q := ⟨_, rfl⟩
    rw [hQ]
    clear hQ
    obtain ⟨m2, y2, z2, p2, d2, o2, g2⟩ := Q
    dsimp only [rnV]
    have c0 : (V5).cell? ⟨C1, 0, none⟩ = some (.int .i64 m) := H8.out.b6.c 0 rfl
    have c1 : (V5).cell? ⟨C1, 1, none⟩ = some (.int .i64 y) := H8.out.b6.c 1 rfl
    have c2 : (V5).cell? ⟨C1, 2, none⟩ = some (.int .i64 z) := H8.out.b6.c 2 rfl
    have c3 : (V5).cell? ⟨C1, 3, none⟩ = some (.int .i64 p) := H8.out.b6.c 3 rfl
    have c4 : (V5).cell? ⟨C1, 4, none⟩ = some (.int .i64 d) := H8.out.b6.c 4 rfl
    have c5 : (V5).cell? ⟨C1, 5, none⟩ = some (.int .i64 o) := H8.out.b6.c 5 rfl
    have c6 : (V5).cell? ⟨C1, 6, none⟩ = some (.int .i64 g) := H8.out.b6.c 6 rfl
    have f0 := H8.out.b6.f 0
    have f1 := H8.out.b6.f 1
    have f2 := H8.out.b6.f 2
    have f3 := H8.out.b6.f 3
    have f4 := H8.out.b6.f 4
    have f5 := H8.out.b6.f 5
    have f6 := H8.out.b6.f 6
    have lr := H8.out.b6.lt
    have k4_0 : Sw w C0 [] [(C7, 50, #[.int .i64 u6, .int .i64 n6, .slice a6 l6.length cp6]), (C6, 90, #[.int .i64 1, .int .i64 (xf - u), .int .i64 xf, .int .i64 (n - u), .int .i64 n]), (C5, 48, #[.int .i64 m, .int .i64 y, .int .i64 z, .int .i64 p, .int .i64 d, .int .i64 o, .int .i64 g]), (C4, 48, #[.int .i64 0, .int .i64 0, .int .i64 0, .int .i64 0, .int .i64 0, .int .i64 0, .int .i64 0]), (C3, 50, #[.int .i64 0, .int .i64 0, .slice none 0 0]), (C2, 33, #[.int .i64 xk, .int .i64 xf, .int .i64 xn, .slice xa xl.length xc]), (C1, 48, #[.int .i64 m2, .int .i64 y, .int .i64 z, .int .i64 p, .int .i64 d, .int .i64 o, .int .i64 g]), (C0, 50, #[.int .i64 u1, .int .i64 n1, .slice a1 l1.length c1r])] a1 c1r l1 none 0 [] none 0 [] none 0 [] none 0 [] (V5.setCell ⟨C1, 0, none⟩ (.int .i64 m2)) := H8.out.p6 0 (.int .i64 m2)
    have k4_1 : Sw w C0 [] [(C7, 50, #[.int .i64 u6, .int .i64 n6, .slice a6 l6.length cp6]), (C6, 90, #[.int .i64 1, .int .i64 (xf - u), .int .i64 xf, .int .i64 (n - u), .int .i64 n]), (C5, 48, #[.int .i64 m, .int .i64 y, .int .i64 z, .int .i64 p, .int .i64 d, .int .i64 o, .int .i64 g]), (C4, 48, #[.int .i64 0, .int .i64 0, .int .i64 0, .int .i64 0, .int .i64 0, .int .i64 0, .int .i64 0]), (C3, 50, #[.int .i64 0, .int .i64 0, .slice none 0 0]), (C2, 33, #[.int .i64 xk, .int .i64 xf, .int .i64 xn, .slice xa xl.length xc]), (C1, 48, #[.int .i64 m2, .int .i64 y2, .int .i64 z, .int .i64 p, .int .i64 d, .int .i64 o, .int .i64 g]), (C0, 50, #[.int .i64 u1, .int .i64 n1, .slice a1 l1.length c1r])] a1 c1r l1 none 0 [] none 0 [] none 0 [] none 0 [] ((V5.setCell ⟨C1, 0, none⟩ (.int .i64 m2)).setCell ⟨C1, 1, none⟩ (.int .i64 y2)) := k4_0.p6 1 (.int .i64 y2)
    have k4_2 : Sw w C0 [] [(C7, 50, #[.int .i64 u6, .int .i64 n6, .slice a6 l6.length cp6]), (C6, 90, #[.int .i64 1, .int .i64 (xf - u), .int .i64 xf, .int .i64 (n - u), .int .i64 n]), (C5, 48, #[.int .i64 m, .int .i64 y, .int .i64 z, .int .i64 p, .int .i64 d, .int .i64 o, .int .i64 g]), (C4, 48, #[.int .i64 0, .int .i64 0, .int .i64 0, .int .i64 0, .int .i64 0, .int .i64 0, .int .i64 0]), (C3, 50, #[.int .i64 0, .int .i64 0, .slice none 0 0]), (C2, 33, #[.int .i64 xk, .int .i64 xf, .int .i64 xn, .slice xa xl.length xc]), (C1, 48, #[.int .i64 m2, .int .i64 y2, .int .i64 z2, .int .i64 p, .int .i64 d, .int .i64 o, .int .i64 g]), (C0, 50, #[.int .i64 u1, .int .i64 n1, .slice a1 l1.length c1r])] a1 c1r l1 none 0 [] none 0 [] none 0 [] none 0 [] (((V5.setCell ⟨C1, 0, none⟩ (.int .i64 m2)).setCell ⟨C1, 1, none⟩ (.int .i64 y2)).setCell ⟨C1, 2, none⟩ (.int .i64 z2)) := k4_1.p6 2 (.int .i64 z2)
    have k4_3 : Sw w C0 [] [(C7, 50, #[.int .i64 u6, .int .i64 n6, .slice a6 l6.length cp6]), (C6, 90, #[.int .i64 1, .int .i64 (xf - u), .int .i64 xf, .int .i64 (n - u), .int .i64 n]), (C5, 48, #[.int .i64 m, .int .i64 y, .int .i64 z, .int .i64 p, .int .i64 d, .int .i64 o, .int .i64 g]), (C4, 48, #[.int .i64 0, .int .i64 0, .int .i64 0, .int .i64 0, .int .i64 0, .int .i64 0, .int .i64 0]), (C3, 50, #[.int .i64 0, .int .i64 0, .slice none 0 0]), (C2, 33, #[.int .i64 xk, .int .i64 xf, .int .i64 xn, .slice xa xl.length xc]), (C1, 48, #[.int .i64 m2, .int .i64 y2, .int .i64 z2, .int .i64 p2, .int .i64 d, .int .i64 o, .int .i64 g]), (C0, 50, #[.int .i64 u1, .int .i64 n1, .slice a1 l1.length c1r])] a1 c1r l1 none 0 [] none 0 [] none 0 [] none 0 [] ((((V5.setCell ⟨C1, 0, none⟩ (.int .i64 m2)).setCell ⟨C1, 1, none⟩ (.int .i64 y2)).setCell ⟨C1, 2, none⟩ (.int .i64 z2)).setCell ⟨C1, 3, none⟩ (.int .i64 p2)) := k4_2.p6 3 (.int .i64 p2)
    have k4_4 : Sw w C0 [] [(C7, 50, #[.int .i64 u6, .int .i64 n6, .slice a6 l6.length cp6]), (C6, 90, #[.int .i64 1, .int .i64 (xf - u), .int .i64 xf, .int .i64 (n - u), .int .i64 n]), (C5, 48, #[.int .i64 m, .int .i64 y, .int .i64 z, .int .i64 p, .int .i64 d, .int .i64 o, .int .i64 g]), (C4, 48, #[.int .i64 0, .int .i64 0, .int .i64 0, .int .i64 0, .int .i64 0, .int .i64 0, .int .i64 0]), (C3, 50, #[.int .i64 0, .int .i64 0, .slice none 0 0]), (C2, 33, #[.int .i64 xk, .int .i64 xf, .int .i64 xn, .slice xa xl.length xc]), (C1, 48, #[.int .i64 m2, .int .i64 y2, .int .i64 z2, .int .i64 p2, .int .i64 d2, .int .i64 o, .int .i64 g]), (C0, 50, #[.int .i64 u1, .int .i64 n1, .slice a1 l1.length c1r])] a1 c1r l1 none 0 [] none 0 [] none 0 [] none 0 [] (((((V5.setCell ⟨C1, 0, none⟩ (.int .i64 m2)).setCell ⟨C1, 1, none⟩ (.int .i64 y2)).setCell ⟨C1, 2, none⟩ (.int .i64 z2)).setCell ⟨C1, 3, none⟩ (.int .i64 p2)).setCell ⟨C1, 4, none⟩ (.int .i64 d2)) := k4_3.p6 4 (.int .i64 d2)
    have k4_5 : Sw w C0 [] [(C7, 50, #[.int .i64 u6, .int .i64 n6, .slice a6 l6.length cp6]), (C6, 90, #[.int .i64 1, .int .i64 (xf - u), .int .i64 xf, .int .i64 (n - u), .int .i64 n]), (C5, 48, #[.int .i64 m, .int .i64 y, .int .i64 z, .int .i64 p, .int .i64 d, .int .i64 o, .int .i64 g]), (C4, 48, #[.int .i64 0, .int .i64 0, .int .i64 0, .int .i64 0, .int .i64 0, .int .i64 0, .int .i64 0]), (C3, 50, #[.int .i64 0, .int .i64 0, .slice none 0 0]), (C2, 33, #[.int .i64 xk, .int .i64 xf, .int .i64 xn, .slice xa xl.length xc]), (C1, 48, #[.int .i64 m2, .int .i64 y2, .int .i64 z2, .int .i64 p2, .int .i64 d2, .int .i64 o2, .int .i64 g]), (C0, 50, #[.int .i64 u1, .int .i64 n1, .slice a1 l1.length c1r])] a1 c1r l1 none 0 [] none 0 [] none 0 [] none 0 [] ((((((V5.setCell ⟨C1, 0, none⟩ (.int .i64 m2)).setCell ⟨C1, 1, none⟩ (.int .i64 y2)).setCell ⟨C1, 2, none⟩ (.int .i64 z2)).setCell ⟨C1, 3, none⟩ (.int .i64 p2)).setCell ⟨C1, 4, none⟩ (.int .i64 d2)).setCell ⟨C1, 5, none⟩ (.int .i64 o2)) := k4_4.p6 5 (.int .i64 o2)
    have k4_6 : Sw w C0 [] [(C7, 50, #[.int .i64 u6, .int .i64 n6, .slice a6 l6.length cp6]), (C6, 90, #[.int .i64 1, .int .i64 (xf - u), .int .i64 xf, .int .i64 (n - u), .int .i64 n]), (C5, 48, #[.int .i64 m, .int .i64 y, .int .i64 z, .int .i64 p, .int .i64 d, .int .i64 o, .int .i64 g]), (C4, 48, #[.int .i64 0, .int .i64 0, .int .i64 0, .int .i64 0, .int .i64 0, .int .i64 0, .int .i64 0]), (C3, 50, #[.int .i64 0, .int .i64 0, .slice none 0 0]), (C2, 33, #[.int .i64 xk, .int .i64 xf, .int .i64 xn, .slice xa xl.length xc]), (C1, 48, #[.int .i64 m2, .int .i64 y2, .int .i64 z2, .int .i64 p2, .int .i64 d2, .int .i64 o2, .int .i64 g2]), (C0, 50, #[.int .i64 u1, .int .i64 n1, .slice a1 l1.length c1r])] a1 c1r l1 none 0 [] none 0 [] none 0 [] none 0 [] (((((((V5.setCell ⟨C1, 0, none⟩ (.int .i64 m2)).setCell ⟨C1, 1, none⟩ (.int .i64 y2)).setCell ⟨C1, 2, none⟩ (.int .i64 z2)).setCell ⟨C1, 3, none⟩ (.int .i64 p2)).setCell ⟨C1, 4, none⟩ (.int .i64 d2)).setCell ⟨C1, 5, none⟩ (.int .i64 o2)).setCell ⟨C1, 6, none⟩ (.int .i64 g2)) := k4_5.p6 6 (.int .i64 g2)
    have H9 := Lib.hid k4_6
    clear k4_0 k4_1 k4_2 k4_3 k4_4 k4_5 k4_6
    go_upto_region 13 with fail
    clear lr H8 c0 f0 c1 f1 c2 f2 c3 f3 c4 f4 c5 f5 c6 f6
    generalize (((((((V5.setCell ⟨C1, 0, none⟩ (.int .i64 m2)).setCell ⟨C1, 1, none⟩ (.int .i64 y2)).setCell ⟨C1, 2, none⟩ (.int .i64 z2)).setCell ⟨C1, 3, none⟩ (.int .i64 p2)).setCell ⟨C1, 4, none⟩ (.int .i64 d2)).setCell ⟨C1, 5, none⟩ (.int .i64 o2)).setCell ⟨C1, 6, none⟩ (.int .i64 g2)) = V6 at *
    have a3 : (V6).cell? ⟨C1, 3, none⟩ = some (.int .i64 p2) := H9.out.b6.c 3 rfl
    have b3 : (V6).cell? ⟨C5, 3, none⟩ = some (.int .i64 p) := H9.out.b2.c 3 rfl
    have d0 : (V6).cell? ⟨C6, 0, none⟩ = some (.int .i64 1) := H9.out.b1.c 0 rfl
    go_cut [1, 13] (fun s1 s13 wx => ∃ b : Bool, s1 = .agg #[.int .i64 m, .int .i64 y, .int .i64 z, .int .i64 p, .int .i64 d, .int .i64 o, .int .i64 g] ∧ s13 = .bool b ∧ Sw w C0 [] [(C7, 50, #[.int .i64 u6, .int .i64 n6, .slice a6 l6.length cp6]), (C6, 90, #[.int .i64 1, .int .i64 (xf - u), .int .i64 xf, .int .i64 (n - u), .int .i64 n]), (C5, 48, #[.int .i64 m, .int .i64 y, .int .i64 z, .int .i64 p, .int .i64 d, .int .i64 o, .int .i64 g]), (C4, 48, #[.int .i64 0, .int .i64 0, .int .i64 0, .int .i64 0, .int .i64 0, .int .i64 0, .int .i64 0]), (C3, 50, #[.int .i64 0, .int .i64 0, .slice none 0 0]), (C2, 33, #[.int .i64 xk, .int .i64 xf, .int .i64 xn, .slice xa xl.length xc]), (C1, 48, #[.int .i64 m2, .int .i64 y2, .int .i64 z2, .int .i64 p2, .int .i64 d2, .int .i64 o2, .int .i64 g2]), (C0, 50, #[.int .i64 u1, .int .i64 n1, .slice a1 l1.length c1r])] a1 c1r l1 none 0 [] none 0 [] none 0 [] none 0 [] wx)
    case first =>
      cases h3 : ((p2 : Int) == 3)
      all_goals cases h4 : ((p : Int) == 3)
      all_goals go_wp2_with fail
      all_goals go_meet
      all_goals exact ⟨_, by first | rfl | simp_all, rfl, H9.out⟩
    case rest =>
      clear a3 b3 d0 H9
      obtain ⟨bb, rfl, rfl, hs⟩ := hcut
      generalize hwc : wc = V7 at *
      clear hwc
      have HT := Lib.hid hs
      clear hs
      go_upto_region 14 with fail
      refine wp_region_held_drew (S := fun w' => w'.cell? ⟨C0, 0, none⟩ = some (.int .i64 u1) ∧ w'.cell? ⟨C0, 1, none⟩ = some (.int .i64 n1) ∧ w'.cell? ⟨C0, 2, none⟩ = some (.slice a1 l1.length c1r) ∧ w'.cell? ⟨C1, 0, none⟩ = some (.int .i64 m2) ∧ w'.cell? ⟨C1, 1, none⟩ = some (.int .i64 y2) ∧ w'.cell? ⟨C1, 2, none⟩ = some (.int .i64 z2) ∧ w'.cell? ⟨C1, 3, none⟩ = some (.int .i64 p2) ∧ w'.cell? ⟨C1, 4, none⟩ = some (.int .i64 d2) ∧ w'.cell? ⟨C1, 5, none⟩ = some (.int .i64 o2) ∧ w'.cell? ⟨C1, 6, none⟩ = some (.int .i64 g2)) (by kernel_rfl) (by have hd := HT.out.keep (grownBy_drew (r := none)); exact ⟨(hd).b7.c 0 rfl, (hd).b7.c 1 rfl, (hd).b7.c 2 rfl, (hd).b6.c 0 rfl, (hd).b6.c 1 rfl, (hd).b6.c 2 rfl, (hd).b6.c 3 rfl, (hd).b6.c 4 rfl, (hd).b6.c 5 rfl, (hd).b6.c 6 rfl⟩) (fun hS => ?_)
      have HD0 := Lib.hid (HT.out.keep (grownBy_drew (r := none)))
      refine wpAnyH_take (i := 0) (v := ?_) rfl (by kernel_rfl) (by kernel_rfl) (by kernel_rfl) (fun _ _ _ h => h) (Or.inl ⟨by kernel_rfl, ?_⟩) hS ?_
      rotate_left
      · intro w' hSw
        obtain ⟨g0, g1, g2, g3, g4, g5, g6, g7, g8, g9⟩ := hSw
        first | (go_simp; done) | (go_simp; with_reducible rfl)
      simp only [List.getElem_toArray, List.getElem_cons_zero, Act.put, List.setIfInBounds_toArray, List.set_cons_zero, List.set_cons_succ]
      refine wpAnyH_take (i := 1) (v := ?_) rfl (by kernel_rfl) (by kernel_rfl) (by kernel_rfl) (fun _ _ _ h => h) (Or.inl ⟨by kernel_rfl, ?_⟩) hS ?_
      rotate_left
      · intro w' hSw
        obtain ⟨g0, g1, g2, g3, g4, g5, g6, g7, g8, g9⟩ := hSw
        first | (go_simp; done) | (go_simp; with_reducible rfl)
      simp only [List.getElem_toArray, List.getElem_cons_zero, List.getElem_cons_succ, Act.put, List.setIfInBounds_toArray, List.set_cons_zero, List.set_cons_succ]
      refine wpAnyH_take (i := 2) (v := ?_) rfl (by kernel_rfl) (by kernel_rfl) (by kernel_rfl) (fun _ _ _ h => h) (Or.inl ⟨by kernel_rfl, ?_⟩) hS ?_
      rotate_left
      · intro w' hSw
        obtain ⟨g0, g1, g2, g3, g4, g5, g6, g7, g8, g9⟩ := hSw
        first | (go_simp; done) | (go_simp; with_reducible rfl)
      simp only [List.getElem_toArray, List.getElem_cons_zero, List.getElem_cons_succ, Act.put, List.setIfInBounds_toArray, List.set_cons_zero, List.set_cons_succ]
      refine wpAnyH_ready (rs := [3]) (by kernel_rfl) (List.cons_ne_nil _ _) ?_
      refine AllReadyH.cons rfl (fun K hK => ?_) AllReadyH.nil
      generalize V7.drew = Wd at *
      have zz0 : (Wd).cell? ⟨C3, 0, none⟩ = some (.int .i64 0) := HD0.out.b4.c 0 rfl
      have zz1 : (Wd).cell? ⟨C3, 1, none⟩ = some (.int .i64 0) := HD0.out.b4.c 1 rfl
      have zz2 : (Wd).cell? ⟨C3, 2, none⟩ = some (.slice none 0 0) := HD0.out.b4.c 2 rfl
      have f0 := HD0.out.b4.f 0
      have f1 := HD0.out.b4.f 1
      have f2 := HD0.out.b4.f 2
      have lr := HD0.out.b4.lt
      go_simp
      have k5_0 : Sw w C0 [] [(C7, 50, #[.int .i64 u6, .int .i64 n6, .slice a6 l6.length cp6]), (C6, 90, #[.int .i64 1, .int .i64 (xf - u), .int .i64 xf, .int .i64 (n - u), .int .i64 n]), (C5, 48, #[.int .i64 m, .int .i64 y, .int .i64 z, .int .i64 p, .int .i64 d, .int .i64 o, .int .i64 g]), (C4, 48, #[.int .i64 0, .int .i64 0, .int .i64 0, .int .i64 0, .int .i64 0, .int .i64 0, .int .i64 0]), (C3, 50, #[.int .i64 u1, .int .i64 0, .slice none 0 0]), (C2, 33, #[.int .i64 xk, .int .i64 xf, .int .i64 xn, .slice xa xl.length xc]), (C1, 48, #[.int .i64 m2, .int .i64 y2, .int .i64 z2, .int .i64 p2, .int .i64 d2, .int .i64 o2, .int .i64 g2]), (C0, 50, #[.int .i64 u1, .int .i64 n1, .slice a1 l1.length c1r])] a1 c1r l1 none 0 [] none 0 [] none 0 [] none 0 [] (Wd.setCell ⟨C3, 0, none⟩ (.int .i64 u1)) := HD0.out.p4 0 (.int .i64 u1)
      have k5_1 : Sw w C0 [] [(C7, 50, #[.int .i64 u6, .int .i64 n6, .slice a6 l6.length cp6]), (C6, 90, #[.int .i64 1, .int .i64 (xf - u), .int .i64 xf, .int .i64 (n - u), .int .i64 n]), (C5, 48, #[.int .i64 m, .int .i64 y, .int .i64 z, .int .i64 p, .int .i64 d, .int .i64 o, .int .i64 g]), (C4, 48, #[.int .i64 0, .int .i64 0, .int .i64 0, .int .i64 0, .int .i64 0, .int .i64 0, .int .i64 0]), (C3, 50, #[.int .i64 u1, .int .i64 n1, .slice none 0 0]), (C2, 33, #[.int .i64 xk, .int .i64 xf, .int .i64 xn, .slice xa xl.length xc]), (C1, 48, #[.int .i64 m2, .int .i64 y2, .int .i64 z2, .int .i64 p2, .int .i64 d2, .int .i64 o2, .int .i64 g2]), (C0, 50, #[.int .i64 u1, .int .i64 n1, .slice a1 l1.length c1r])] a1 c1r l1 none 0 [] none 0 [] none 0 [] none 0 [] ((Wd.setCell ⟨C3, 0, none⟩ (.int .i64 u1)).setCell ⟨C3, 1, none⟩ (.int .i64 n1)) := k5_0.p4 1 (.int .i64 n1)
      have k5_2 : Sw w C0 [] [(C7, 50, #[.int .i64 u6, .int .i64 n6, .slice a6 l6.length cp6]), (C6, 90, #[.int .i64 1, .int .i64 (xf - u), .int .i64 xf, .int .i64 (n - u), .int .i64 n]), (C5, 48, #[.int .i64 m, .int .i64 y, .int .i64 z, .int .i64 p, .int .i64 d, .int .i64 o, .int .i64 g]), (C4, 48, #[.int .i64 0, .int .i64 0, .int .i64 0, .int .i64 0, .int .i64 0, .int .i64 0, .int .i64 0]), (C3, 50, #[.int .i64 u1, .int .i64 n1, .slice a1 l1.length c1r]), (C2, 33, #[.int .i64 xk, .int .i64 xf, .int .i64 xn, .slice xa xl.length xc]), (C1, 48, #[.int .i64 m2, .int .i64 y2, .int .i64 z2, .int .i64 p2, .int .i64 d2, .int .i64 o2, .int .i64 g2]), (C0, 50, #[.int .i64 u1, .int .i64 n1, .slice a1 l1.length c1r])] a1 c1r l1 none 0 [] none 0 [] none 0 [] none 0 [] (((Wd.setCell ⟨C3, 0, none⟩ (.int .i64 u1)).setCell ⟨C3, 1, none⟩ (.int .i64 n1)).setCell ⟨C3, 2, none⟩ (.slice a1 l1.length c1r)) := k5_1.p4 2 (.slice a1 l1.length c1r)
      refine gen_wr (P := fun V => Sw w C0 [] [(C7, 50, #[.int .i64 u6, .int .i64 n6, .slice a6 l6.length cp6]), (C6, 90, #[.int .i64 1, .int .i64 (xf - u), .int .i64 xf, .int .i64 (n - u), .int .i64 n]), (C5, 48, #[.int .i64 m, .int .i64 y, .int .i64 z, .int .i64 p, .int .i64 d, .int .i64 o, .int .i64 g]), (C4, 48, #[.int .i64 0, .int .i64 0, .int .i64 0, .int .i64 0, .int .i64 0, .int .i64 0, .int .i64 0]), (C3, 50, #[.int .i64 u1, .int .i64 n1, .slice a1 l1.length c1r]), (C2, 33, #[.int .i64 xk, .int .i64 xf, .int .i64 xn, .slice xa xl.length xc]), (C1, 48, #[.int .i64 m2, .int .i64 y2, .int .i64 z2, .int .i64 p2, .int .i64 d2, .int .i64 o2, .int .i64 g2]), (C0, 50, #[.int .i64 u1, .int .i64 n1, .slice a1 l1.length c1r])] a1 c1r l1 none 0 [] none 0 [] none 0 [] none 0 [] V) k5_2 (fun uy hz => ?_)
      clear lr zz0 f0 zz1 f1 zz2 f2 k5_0 k5_1 k5_2
      have HD1 := Lib.hid hz
      clear hz
      refine hK.out _ _ (⟨(HD1.out).b7.c 0 rfl, (HD1.out).b7.c 1 rfl, (HD1.out).b7.c 2 rfl, (HD1.out).b6.c 0 rfl, (HD1.out).b6.c 1 rfl, (HD1.out).b6.c 2 rfl, (HD1.out).b6.c 3 rfl, (HD1.out).b6.c 4 rfl, (HD1.out).b6.c 5 rfl, (HD1.out).b6.c 6 rfl⟩) (fun hS => ?_)
      clear hK
      try simp only [List.getElem_toArray, List.getElem_cons_zero, List.getElem_cons_succ, Act.put, List.setIfInBounds_toArray, List.set_cons_zero, List.set_cons_succ]
      refine wpAnyH_ready (rs := [4]) (by kernel_rfl) (List.cons_ne_nil _ _) ?_
      refine AllReadyH.cons rfl (fun K hK => ?_) AllReadyH.nil
      have zz0 : (uy).cell? ⟨C4, 0, none⟩ = some (.int .i64 0) := HD1.out.b3.c 0 rfl
      have zz1 : (uy).cell? ⟨C4, 1, none⟩ = some (.int .i64 0) := HD1.out.b3.c 1 rfl
      have zz2 : (uy).cell? ⟨C4, 2, none⟩ = some (.int .i64 0) := HD1.out.b3.c 2 rfl
      have zz3 : (uy).cell? ⟨C4, 3, none⟩ = some (.int .i64 0) := HD1.out.b3.c 3 rfl
      have zz4 : (uy).cell? ⟨C4, 4, none⟩ = some (.int .i64 0) := HD1.out.b3.c 4 rfl
      have zz5 : (uy).cell? ⟨C4, 5, none⟩ = some (.int .i64 0) := HD1.out.b3.c 5 rfl
      have zz6 : (uy).cell? ⟨C4, 6, none⟩ = some (.int .i64 0) := HD1.out.b3.c 6 rfl
      have f0 := HD1.out.b3.f 0
      have f1 := HD1.out.b3.f 1
      have f2 := HD1.out.b3.f 2
      have f3 := HD1.out.b3.f 3
      have f4 := HD1.out.b3.f 4
      have f5 := HD1.out.b3.f 5
      have f6 := HD1.out.b3.f 6
      have lr := HD1.out.b3.lt
      go_simp
      have k6_0 : Sw w C0 [] [(C7, 50, #[.int .i64 u6, .int .i64 n6, .slice a6 l6.length cp6]), (C6, 90, #[.int .i64 1, .int .i64 (xf - u), .int .i64 xf, .int .i64 (n - u), .int .i64 n]), (C5, 48, #[.int .i64 m, .int .i64 y, .int .i64 z, .int .i64 p, .int .i64 d, .int .i64 o, .int .i64 g]), (C4, 48, #[.int .i64 m2, .int .i64 0, .int .i64 0, .int .i64 0, .int .i64 0, .int .i64 0, .int .i64 0]), (C3, 50, #[.int .i64 u1, .int .i64 n1, .slice a1 l1.length c1r]), (C2, 33, #[.int .i64 xk, .int .i64 xf, .int .i64 xn, .slice xa xl.length xc]), (C1, 48, #[.int .i64 m2, .int .i64 y2, .int .i64 z2, .int .i64 p2, .int .i64 d2, .int .i64 o2, .int .i64 g2]), (C0, 50, #[.int .i64 u1, .int .i64 n1, .slice a1 l1.length c1r])] a1 c1r l1 none 0 [] none 0 [] none 0 [] none 0 [] (uy.setCell ⟨C4, 0, none⟩ (.int .i64 m2)) := HD1.out.p3 0 (.int .i64 m2)
      have k6_1 : Sw w C0 [] [(C7, 50, #[.int .i64 u6, .int .i64 n6, .slice a6 l6.length cp6]), (C6, 90, #[.int .i64 1, .int .i64 (xf - u), .int .i64 xf, .int .i64 (n - u), .int .i64 n]), (C5, 48, #[.int .i64 m, .int .i64 y, .int .i64 z, .int .i64 p, .int .i64 d, .int .i64 o, .int .i64 g]), (C4, 48, #[.int .i64 m2, .int .i64 y2, .int .i64 0, .int .i64 0, .int .i64 0, .int .i64 0, .int .i64 0]), (C3, 50, #[.int .i64 u1, .int .i64 n1, .slice a1 l1.length c1r]), (C2, 33, #[.int .i64 xk, .int .i64 xf, .int .i64 xn, .slice xa xl.length xc]), (C1, 48, #[.int .i64 m2, .int .i64 y2, .int .i64 z2, .int .i64 p2, .int .i64 d2, .int .i64 o2, .int .i64 g2]), (C0, 50, #[.int .i64 u1, .int .i64 n1, .slice a1 l1.length c1r])] a1 c1r l1 none 0 [] none 0 [] none 0 [] none 0 [] ((uy.setCell ⟨C4, 0, none⟩ (.int .i64 m2)).setCell ⟨C4, 1, none⟩ (.int .i64 y2)) := k6_0.p3 1 (.int .i64 y2)
      have k6_2 : Sw w C0 [] [(C7, 50, #[.int .i64 u6, .int .i64 n6, .slice a6 l6.length cp6]), (C6, 90, #[.int .i64 1, .int .i64 (xf - u), .int .i64 xf, .int .i64 (n - u), .int .i64 n]), (C5, 48, #[.int .i64 m, .int .i64 y, .int .i64 z, .int .i64 p, .int .i64 d, .int .i64 o, .int .i64 g]), (C4, 48, #[.int .i64 m2, .int .i64 y2, .int .i64 z2, .int .i64 0, .int .i64 0, .int .i64 0, .int .i64 0]), (C3, 50, #[.int .i64 u1, .int .i64 n1, .slice a1 l1.length c1r]), (C2, 33, #[.int .i64 xk, .int .i64 xf, .int .i64 xn, .slice xa xl.length xc]), (C1, 48, #[.int .i64 m2, .int .i64 y2, .int .i64 z2, .int .i64 p2, .int .i64 d2, .int .i64 o2, .int .i64 g2]), (C0, 50, #[.int .i64 u1, .int .i64 n1, .slice a1 l1.length c1r])] a1 c1r l1 none 0 [] none 0 [] none 0 [] none 0 [] (((uy.setCell ⟨C4, 0, none⟩ (.int .i64 m2)).setCell ⟨C4, 1, none⟩ (.int .i64 y2)).setCell ⟨C4, 2, none⟩ (.int .i64 z2)) := k6_1.p3 2 (.int .i64 z2)
      have k6_3 : Sw w C0 [] [(C7, 50, #[.int .i64 u6, .int .i64 n6, .slice a6 l6.length cp6]), (C6, 90, #[.int .i64 1, .int .i64 (xf - u), .int .i64 xf, .int .i64 (n - u), .int .i64 n]), (C5, 48, #[.int .i64 m, .int .i64 y, .int .i64 z, .int .i64 p, .int .i64 d, .int .i64 o, .int .i64 g]), (C4, 48, #[.int .i64 m2, .int .i64 y2, .int .i64 z2, .int .i64 p2, .int .i64 0, .int .i64 0, .int .i64 0]), (C3, 50, #[.int .i64 u1, .int .i64 n1, .slice a1 l1.length c1r]), (C2, 33, #[.int .i64 xk, .int .i64 xf, .int .i64 xn, .slice xa xl.length xc]), (C1, 48, #[.int .i64 m2, .int .i64 y2, .int .i64 z2, .int .i64 p2, .int .i64 d2, .int .i64 o2, .int .i64 g2]), (C0, 50, #[.int .i64 u1, .int .i64 n1, .slice a1 l1.length c1r])] a1 c1r l1 none 0 [] none 0 [] none 0 [] none 0 [] ((((uy.setCell ⟨C4, 0, none⟩ (.int .i64 m2)).setCell ⟨C4, 1, none⟩ (.int .i64 y2)).setCell ⟨C4, 2, none⟩ (.int .i64 z2)).setCell ⟨C4, 3, none⟩ (.int .i64 p2)) := k6_2.p3 3 (.int .i64 p2)
      have k6_4 : Sw w C0 [] [(C7, 50, #[.int .i64 u6, .int .i64 n6, .slice a6 l6.length cp6]), (C6, 90, #[.int .i64 1, .int .i64 (xf - u), .int .i64 xf, .int .i64 (n - u), .int .i64 n]), (C5, 48, #[.int .i64 m, .int .i64 y, .int .i64 z, .int .i64 p, .int .i64 d, .int .i64 o, .int .i64 g]), (C4, 48, #[.int .i64 m2, .int .i64 y2, .int .i64 z2, .int .i64 p2, .int .i64 d2, .int .i64 0, .int .i64 0]), (C3, 50, #[.int .i64 u1, .int .i64 n1, .slice a1 l1.length c1r]), (C2, 33, #[.int .i64 xk, .int .i64 xf, .int .i64 xn, .slice xa xl.length xc]), (C1, 48, #[.int .i64 m2, .int .i64 y2, .int .i64 z2, .int .i64 p2, .int .i64 d2, .int .i64 o2, .int .i64 g2]), (C0, 50, #[.int .i64 u1, .int .i64 n1, .slice a1 l1.length c1r])] a1 c1r l1 none 0 [] none 0 [] none 0 [] none 0 [] (((((uy.setCell ⟨C4, 0, none⟩ (.int .i64 m2)).setCell ⟨C4, 1, none⟩ (.int .i64 y2)).setCell ⟨C4, 2, none⟩ (.int .i64 z2)).setCell ⟨C4, 3, none⟩ (.int .i64 p2)).setCell ⟨C4, 4, none⟩ (.int .i64 d2)) := k6_3.p3 4 (.int .i64 d2)
      have k6_5 : Sw w C0 [] [(C7, 50, #[.int .i64 u6, .int .i64 n6, .slice a6 l6.length cp6]), (C6, 90, #[.int .i64 1, .int .i64 (xf - u), .int .i64 xf, .int .i64 (n - u), .int .i64 n]), (C5, 48, #[.int .i64 m, .int .i64 y, .int .i64 z, .int .i64 p, .int .i64 d, .int .i64 o, .int .i64 g]), (C4, 48, #[.int .i64 m2, .int .i64 y2, .int .i64 z2, .int .i64 p2, .int .i64 d2, .int .i64 o2, .int .i64 0]), (C3, 50, #[.int .i64 u1, .int .i64 n1, .slice a1 l1.length c1r]), (C2, 33, #[.int .i64 xk, .int .i64 xf, .int .i64 xn, .slice xa xl.length xc]), (C1, 48, #[.int .i64 m2, .int .i64 y2, .int .i64 z2, .int .i64 p2, .int .i64 d2, .int .i64 o2, .int .i64 g2]), (C0, 50, #[.int .i64 u1, .int .i64 n1, .slice a1 l1.length c1r])] a1 c1r l1 none 0 [] none 0 [] none 0 [] none 0 [] ((((((uy.setCell ⟨C4, 0, none⟩ (.int .i64 m2)).setCell ⟨C4, 1, none⟩ (.int .i64 y2)).setCell ⟨C4, 2, none⟩ (.int .i64 z2)).setCell ⟨C4, 3, none⟩ (.int .i64 p2)).setCell ⟨C4, 4, none⟩ (.int .i64 d2)).setCell ⟨C4, 5, none⟩ (.int .i64 o2)) := k6_4.p3 5 (.int .i64 o2)
      have k6_6 : Sw w C0 [] [(C7, 50, #[.int .i64 u6, .int .i64 n6, .slice a6 l6.length cp6]), (C6, 90, #[.int .i64 1, .int .i64 (xf - u), .int .i64 xf, .int .i64 (n - u), .int .i64 n]), (C5, 48, #[.int .i64 m, .int .i64 y, .int .i64 z, .int .i64 p, .int .i64 d, .int .i64 o, .int .i64 g]), (C4, 48, #[.int .i64 m2, .int .i64 y2, .int .i64 z2, .int .i64 p2, .int .i64 d2, .int .i64 o2, .int .i64 g2]), (C3, 50, #[.int .i64 u1, .int .i64 n1, .slice a1 l1.length c1r]), (C2, 33, #[.int .i64 xk, .int .i64 xf, .int .i64 xn, .slice xa xl.length xc]), (C1, 48, #[.int .i64 m2, .int .i64 y2, .int .i64 z2, .int .i64 p2, .int .i64 d2, .int .i64 o2, .int .i64 g2]), (C0, 50, #[.int .i64 u1, .int .i64 n1, .slice a1 l1.length c1r])] a1 c1r l1 none 0 [] none 0 [] none 0 [] none 0 [] (((((((uy.setCell ⟨C4, 0, none⟩ (.int .i64 m2)).setCell ⟨C4, 1, none⟩ (.int .i64 y2)).setCell ⟨C4, 2, none⟩ (.int .i64 z2)).setCell ⟨C4, 3, none⟩ (.int .i64 p2)).setCell ⟨C4, 4, none⟩ (.int .i64 d2)).setCell ⟨C4, 5, none⟩ (.int .i64 o2)).setCell ⟨C4, 6, none⟩ (.int .i64 g2)) := k6_5.p3 6 (.int .i64 g2)
      refine gen_wr (P := fun V => Sw w C0 [] [(C7, 50, #[.int .i64 u6, .int .i64 n6, .slice a6 l6.length cp6]), (C6, 90, #[.int .i64 1, .int .i64 (xf - u), .int .i64 xf, .int .i64 (n - u), .int .i64 n]), (C5, 48, #[.int .i64 m, .int .i64 y, .int .i64 z, .int .i64 p, .int .i64 d, .int .i64 o, .int .i64 g]), (C4, 48, #[.int .i64 m2, .int .i64 y2, .int .i64 z2, .int .i64 p2, .int .i64 d2, .int .i64 o2, .int .i64 g2]), (C3, 50, #[.int .i64 u1, .int .i64 n1, .slice a1 l1.length c1r]), (C2, 33, #[.int .i64 xk, .int .i64 xf, .int .i64 xn, .slice xa xl.length xc]), (C1, 48, #[.int .i64 m2, .int .i64 y2, .int .i64 z2, .int .i64 p2, .int .i64 d2, .int .i64 o2, .int .i64 g2]), (C0, 50, #[.int .i64 u1, .int .i64 n1, .slice a1 l1.length c1r])] a1 c1r l1 none 0 [] none 0 [] none 0 [] none 0 [] V) k6_6 (fun uz hz => ?_)
      clear lr zz0 f0 zz1 f1 zz2 f2 zz3 f3 zz4 f4 zz5 f5 zz6 f6 k6_0 k6_1 k6_2 k6_3 k6_4 k6_5 k6_6
      have HD2 := Lib.hid hz
      clear hz
      refine hK.out _ _ (⟨(HD2.out).b7.c 0 rfl, (HD2.out).b7.c 1 rfl, (HD2.out).b7.c 2 rfl, (HD2.out).b6.c 0 rfl, (HD2.out).b6.c 1 rfl, (HD2.out).b6.c 2 rfl, (HD2.out).b6.c 3 rfl, (HD2.out).b6.c 4 rfl, (HD2.out).b6.c 5 rfl, (HD2.out).b6.c 6 rfl⟩) (fun hS => ?_)
      clear hK
      try simp only [List.getElem_toArray, List.getElem_cons_zero, List.getElem_cons_succ, Act.put, List.setIfInBounds_toArray, List.set_cons_zero, List.set_cons_succ]
      refine wpAnyH_take (i := 5) (v := ?_) rfl (by kernel_rfl) (by kernel_rfl) (by kernel_rfl) (fun _ _ _ h => h) (Or.inl ⟨by kernel_rfl, ?_⟩) hS ?_
      rotate_left
      · intro w' hSw
        obtain ⟨g0, g1, g2, g3, g4, g5, g6, g7, g8, g9⟩ := hSw
        first | (go_simp; done) | (go_simp; with_reducible rfl)
      simp only [List.getElem_toArray, List.getElem_cons_zero, List.getElem_cons_succ, Act.put, List.setIfInBounds_toArray, List.set_cons_zero, List.set_cons_succ]
      refine wpAnyH_done (by kernel_rfl) ?_ _
      have r0 : (uz).cell? ⟨C3, 0, none⟩ = some (.int .i64 u1) := HD2.out.b4.c 0 rfl
      have r1 : (uz).cell? ⟨C3, 1, none⟩ = some (.int .i64 n1) := HD2.out.b4.c 1 rfl
      have r2 : (uz).cell? ⟨C3, 2, none⟩ = some (.slice a1 l1.length c1r) := HD2.out.b4.c 2 rfl
      have s0 : (uz).cell? ⟨C4, 0, none⟩ = some (.int .i64 m2) := HD2.out.b3.c 0 rfl
      have s1 : (uz).cell? ⟨C4, 1, none⟩ = some (.int .i64 y2) := HD2.out.b3.c 1 rfl
      have s2 : (uz).cell? ⟨C4, 2, none⟩ = some (.int .i64 z2) := HD2.out.b3.c 2 rfl
      have s3 : (uz).cell? ⟨C4, 3, none⟩ = some (.int .i64 p2) := HD2.out.b3.c 3 rfl
      have s4 : (uz).cell? ⟨C4, 4, none⟩ = some (.int .i64 d2) := HD2.out.b3.c 4 rfl
      have s5 : (uz).cell? ⟨C4, 5, none⟩ = some (.int .i64 o2) := HD2.out.b3.c 5 rfl
      have s6 : (uz).cell? ⟨C4, 6, none⟩ = some (.int .i64 g2) := HD2.out.b3.c 6 rfl
      go_wp2_with fail
      refine bodyPost_ret (v := .tuple #[.agg #[.int .i64 u1, .int .i64 n1, .slice a1 l1.length c1r], .agg #[.int .i64 m2, .int .i64 y2, .int .i64 z2, .int .i64 p2, .int .i64 d2, .int .i64 o2, .int .i64 g2], .bool bb]) (by simp [results, Try.results48, go_sem, r0, r1, r2, s0, s1, s2, s3, s4, s5, s6]) rfl ?_
      exact ⟨_, _, _, _, _, _, _, _, _, _, _, _, _, rfl, HD2.out.k.grown (World.grownBy.refl _ _) (Nat.le_of_eq HCC.out.symm), HD2.out.l.s, HD2.out.l.ss.lt, HBR.out⟩
  · have q0 : (V4).cell? ⟨C7, 0, none⟩ = some (.int .i64 u6) := HB.out.b0.c 0 rfl
    have q1 : (V4).cell? ⟨C7, 1, none⟩ = some (.int .i64 n6) := HB.out.b0.c 1 rfl
    have q2 : (V4).cell? ⟨C7, 2, none⟩ = some (.slice a6 l6.length cp6) := HB.out.b0.c 2 rfl
    have c0 : (V4).cell? ⟨C0, 0, none⟩ = some (.int .i64 u1) := HB.out.b7.c 0 rfl
    have c1 : (V4).cell? ⟨C0, 1, none⟩ = some (.int .i64 n1) := HB.out.b7.c 1 rfl
    have c2 : (V4).cell? ⟨C0, 2, none⟩ = some (.slice a1 l1.length c1r) := HB.out.b7.c 2 rfl
    have f0 := HB.out.b7.f 0
    have f1 := HB.out.b7.f 1
    have f2 := HB.out.b7.f 2
    have lr := HB.out.b7.lt
    have k7_0 : Sw w C0 [] [(C7, 50, #[.int .i64 u6, .int .i64 n6, .slice a6 l6.length cp6]), (C6, 90, #[.int .i64 1, .int .i64 (xf - u), .int .i64 xf, .int .i64 (n - u), .int .i64 n]), (C5, 48, #[.int .i64 m, .int .i64 y, .int .i64 z, .int .i64 p, .int .i64 d, .int .i64 o, .int .i64 g]), (C4, 48, #[.int .i64 0, .int .i64 0, .int .i64 0, .int .i64 0, .int .i64 0, .int .i64 0, .int .i64 0]), (C3, 50, #[.int .i64 0, .int .i64 0, .slice none 0 0]), (C2, 33, #[.int .i64 xk, .int .i64 xf, .int .i64 xn, .slice xa xl.length xc]), (C1, 48, #[.int .i64 m, .int .i64 y, .int .i64 z, .int .i64 p, .int .i64 d, .int .i64 o, .int .i64 g]), (C0, 50, #[.int .i64 u6, .int .i64 n1, .slice a1 l1.length c1r])] a6 cp6 l6 none 0 [] none 0 [] none 0 [] none 0 [] (V4.setCell ⟨C0, 0, none⟩ (.int .i64 u6)) := HB.out.p7 0 (.int .i64 u6)
    have k7_1 : Sw w C0 [] [(C7, 50, #[.int .i64 u6, .int .i64 n6, .slice a6 l6.length cp6]), (C6, 90, #[.int .i64 1, .int .i64 (xf - u), .int .i64 xf, .int .i64 (n - u), .int .i64 n]), (C5, 48, #[.int .i64 m, .int .i64 y, .int .i64 z, .int .i64 p, .int .i64 d, .int .i64 o, .int .i64 g]), (C4, 48, #[.int .i64 0, .int .i64 0, .int .i64 0, .int .i64 0, .int .i64 0, .int .i64 0, .int .i64 0]), (C3, 50, #[.int .i64 0, .int .i64 0, .slice none 0 0]), (C2, 33, #[.int .i64 xk, .int .i64 xf, .int .i64 xn, .slice xa xl.length xc]), (C1, 48, #[.int .i64 m, .int .i64 y, .int .i64 z, .int .i64 p, .int .i64 d, .int .i64 o, .int .i64 g]), (C0, 50, #[.int .i64 u6, .int .i64 n6, .slice a1 l1.length c1r])] a6 cp6 l6 none 0 [] none 0 [] none 0 [] none 0 [] ((V4.setCell ⟨C0, 0, none⟩ (.int .i64 u6)).setCell ⟨C0, 1, none⟩ (.int .i64 n6)) := k7_0.p7 1 (.int .i64 n6)
    have k7_2 : Sw w C0 [] [(C7, 50, #[.int .i64 u6, .int .i64 n6, .slice a6 l6.length cp6]), (C6, 90, #[.int .i64 1, .int .i64 (xf - u), .int .i64 xf, .int .i64 (n - u), .int .i64 n]), (C5, 48, #[.int .i64 m, .int .i64 y, .int .i64 z, .int .i64 p, .int .i64 d, .int .i64 o, .int .i64 g]), (C4, 48, #[.int .i64 0, .int .i64 0, .int .i64 0, .int .i64 0, .int .i64 0, .int .i64 0, .int .i64 0]), (C3, 50, #[.int .i64 0, .int .i64 0, .slice none 0 0]), (C2, 33, #[.int .i64 xk, .int .i64 xf, .int .i64 xn, .slice xa xl.length xc]), (C1, 48, #[.int .i64 m, .int .i64 y, .int .i64 z, .int .i64 p, .int .i64 d, .int .i64 o, .int .i64 g]), (C0, 50, #[.int .i64 u6, .int .i64 n6, .slice a6 l6.length cp6])] a6 cp6 l6 none 0 [] none 0 [] none 0 [] none 0 [] (((V4.setCell ⟨C0, 0, none⟩ (.int .i64 u6)).setCell ⟨C0, 1, none⟩ (.int .i64 n6)).setCell ⟨C0, 2, none⟩ (.slice a6 l6.length cp6)) := k7_1.p7 2 (.slice a6 l6.length cp6)
    have HC := Lib.hid k7_2
    clear k7_0 k7_1 k7_2
    go_upto_region 12 with fail
    clear lr HA HB q0 c0 f0 q1 c1 f1 q2 c2 f2
    generalize (((V4.setCell ⟨C0, 0, none⟩ (.int .i64 u6)).setCell ⟨C0, 1, none⟩ (.int .i64 n6)).setCell ⟨C0, 2, none⟩ (.slice a6 l6.length cp6)) = V4b at *
    have c0 : (V4b).cell? ⟨C1, 0, none⟩ = some (.int .i64 m) := HC.out.b6.c 0 rfl
    have c1 : (V4b).cell? ⟨C1, 1, none⟩ = some (.int .i64 y) := HC.out.b6.c 1 rfl
    have c2 : (V4b).cell? ⟨C1, 2, none⟩ = some (.int .i64 z) := HC.out.b6.c 2 rfl
    have c3 : (V4b).cell? ⟨C1, 3, none⟩ = some (.int .i64 p) := HC.out.b6.c 3 rfl
    have c4 : (V4b).cell? ⟨C1, 4, none⟩ = some (.int .i64 d) := HC.out.b6.c 4 rfl
    have c5 : (V4b).cell? ⟨C1, 5, none⟩ = some (.int .i64 o) := HC.out.b6.c 5 rfl
    have c6 : (V4b).cell? ⟨C1, 6, none⟩ = some (.int .i64 g) := HC.out.b6.c 6 rfl
    have e0 : (V4b).cell? ⟨C6, 0, none⟩ = some (.int .i64 1) := HC.out.b1.c 0 rfl
    have e1 : (V4b).cell? ⟨C6, 1, none⟩ = some (.int .i64 (xf - u)) := HC.out.b1.c 1 rfl
    have e2 : (V4b).cell? ⟨C6, 2, none⟩ = some (.int .i64 xf) := HC.out.b1.c 2 rfl
    have e3 : (V4b).cell? ⟨C6, 3, none⟩ = some (.int .i64 (n - u)) := HC.out.b1.c 3 rfl
    have e4 : (V4b).cell? ⟨C6, 4, none⟩ = some (.int .i64 n) := HC.out.b1.c 4 rfl
    go_wp2_with fail
    refine (rs_stepL m y z p d o g 1 (xf - u) xf (n - u) n _ hrn hev).mono ?_
    rintro e V5 ⟨rfl, hg⟩
    have H8 := Lib.hid (HC.out.keep hg)
    try clear hw2
    clear hev hrn hw
    try clear hA1 hA2
    try clear hB2
    try clear hun hn9 hxf0 hxf1 hu0 hsl hxl
    clear hg c0 c1 c2 c3 c4 c5 c6 e0 e1 e2 e3 e4
    obtain ⟨Q, hQ⟩ : ∃ Q, rnStep ⟨m, y, z, p, d, o, g⟩ ⟨1, (xf - u), xf, (n - u), n⟩ = Q := ⟨_, rfl⟩
    rw [hQ]
    clear hQ
    obtain ⟨m2, y2, z2, p2, d2, o2, g2⟩ := Q
    dsimp only [rnV]
    have c0 : (V5).cell? ⟨C1, 0, none⟩ = some (.int .i64 m) := H8.out.b6.c 0 rfl
    have c1 : (V5).cell? ⟨C1, 1, none⟩ = some (.int .i64 y) := H8.out.b6.c 1 rfl
    have c2 : (V5).cell? ⟨C1, 2, none⟩ = some (.int .i64 z) := H8.out.b6.c 2 rfl
    have c3 : (V5).cell? ⟨C1, 3, none⟩ = some (.int .i64 p) := H8.out.b6.c 3 rfl
    have c4 : (V5).cell? ⟨C1, 4, none⟩ = some (.int .i64 d) := H8.out.b6.c 4 rfl
    have c5 : (V5).cell? ⟨C1, 5, none⟩ = some (.int .i64 o) := H8.out.b6.c 5 rfl
    have c6 : (V5).cell? ⟨C1, 6, none⟩ = some (.int .i64 g) := H8.out.b6.c 6 rfl
    have f0 := H8.out.b6.f 0
    have f1 := H8.out.b6.f 1
    have f2 := H8.out.b6.f 2
    have f3 := H8.out.b6.f 3
    have f4 := H8.out.b6.f 4
    have f5 := H8.out.b6.f 5
    have f6 := H8.out.b6.f 6
    have lr := H8.out.b6.lt
    have k8_0 : Sw w C0 [] [(C7, 50, #[.int .i64 u6, .int .i64 n6, .slice a6 l6.length cp6]), (C6, 90, #[.int .i64 1, .int .i64 (xf - u), .int .i64 xf, .int .i64 (n - u), .int .i64 n]), (C5, 48, #[.int .i64 m, .int .i64 y, .int .i64 z, .int .i64 p, .int .i64 d, .int .i64 o, .int .i64 g]), (C4, 48, #[.int .i64 0, .int .i64 0, .int .i64 0, .int .i64 0, .int .i64 0, .int .i64 0, .int .i64 0]), (C3, 50, #[.int .i64 0, .int .i64 0, .slice none 0 0]), (C2, 33, #[.int .i64 xk, .int .i64 xf, .int .i64 xn, .slice xa xl.length xc]), (C1, 48, #[.int .i64 m2, .int .i64 y, .int .i64 z, .int .i64 p, .int .i64 d, .int .i64 o, .int .i64 g]), (C0, 50, #[.int .i64 u6, .int .i64 n6, .slice a6 l6.length cp6])] a6 cp6 l6 none 0 [] none 0 [] none 0 [] none 0 [] (V5.setCell ⟨C1, 0, none⟩ (.int .i64 m2)) := H8.out.p6 0 (.int .i64 m2)
    have k8_1 : Sw w C0 [] [(C7, 50, #[.int .i64 u6, .int .i64 n6, .slice a6 l6.length cp6]), (C6, 90, #[.int .i64 1, .int .i64 (xf - u), .int .i64 xf, .int .i64 (n - u), .int .i64 n]), (C5, 48, #[.int .i64 m, .int .i64 y, .int .i64 z, .int .i64 p, .int .i64 d, .int .i64 o, .int .i64 g]), (C4, 48, #[.int .i64 0, .int .i64 0, .int .i64 0, .int .i64 0, .int .i64 0, .int .i64 0, .int .i64 0]), (C3, 50, #[.int .i64 0, .int .i64 0, .slice none 0 0]), (C2, 33, #[.int .i64 xk, .int .i64 xf, .int .i64 xn, .slice xa xl.length xc]), (C1, 48, #[.int .i64 m2, .int .i64 y2, .int .i64 z, .int .i64 p, .int .i64 d, .int .i64 o, .int .i64 g]), (C0, 50, #[.int .i64 u6, .int .i64 n6, .slice a6 l6.length cp6])] a6 cp6 l6 none 0 [] none 0 [] none 0 [] none 0 [] ((V5.setCell ⟨C1, 0, none⟩ (.int .i64 m2)).setCell ⟨C1, 1, none⟩ (.int .i64 y2)) := k8_0.p6 1 (.int .i64 y2)
    have k8_2 : Sw w C0 [] [(C7, 50, #[.int .i64 u6, .int .i64 n6, .slice a6 l6.length cp6]), (C6, 90, #[.int .i64 1, .int .i64 (xf - u), .int .i64 xf, .int .i64 (n - u), .int .i64 n]), (C5, 48, #[.int .i64 m, .int .i64 y, .int .i64 z, .int .i64 p, .int .i64 d, .int .i64 o, .int .i64 g]), (C4, 48, #[.int .i64 0, .int .i64 0, .int .i64 0, .int .i64 0, .int .i64 0, .int .i64 0, .int .i64 0]), (C3, 50, #[.int .i64 0, .int .i64 0, .slice none 0 0]), (C2, 33, #[.int .i64 xk, .int .i64 xf, .int .i64 xn, .slice xa xl.length xc]), (C1, 48, #[.int .i64 m2, .int .i64 y2, .int .i64 z2, .int .i64 p, .int .i64 d, .int .i64 o, .int .i64 g]), (C0, 50, #[.int .i64 u6, .int .i64 n6, .slice a6 l6.length cp6])] a6 cp6 l6 none 0 [] none 0 [] none 0 [] none 0 [] (((V5.setCell ⟨C1, 0, none⟩ (.int .i64 m2)).setCell ⟨C1, 1, none⟩ (.int .i64 y2)).setCell ⟨C1, 2, none⟩ (.int .i64 z2)) := k8_1.p6 2 (.int .i64 z2)
    have k8_3 : Sw w C0 [] [(C7, 50, #[.int .i64 u6, .int .i64 n6, .slice a6 l6.length cp6]), (C6, 90, #[.int .i64 1, .int .i64 (xf - u), .int .i64 xf, .int .i64 (n - u), .int .i64 n]), (C5, 48, #[.int .i64 m, .int .i64 y, .int .i64 z, .int .i64 p, .int .i64 d, .int .i64 o, .int .i64 g]), (C4, 48, #[.int .i64 0, .int .i64 0, .int .i64 0, .int .i64 0, .int .i64 0, .int .i64 0, .int .i64 0]), (C3, 50, #[.int .i64 0, .int .i64 0, .slice none 0 0]), (C2, 33, #[.int .i64 xk, .int .i64 xf, .int .i64 xn, .slice xa xl.length xc]), (C1, 48, #[.int .i64 m2, .int .i64 y2, .int .i64 z2, .int .i64 p2, .int .i64 d, .int .i64 o, .int .i64 g]), (C0, 50, #[.int .i64 u6, .int .i64 n6, .slice a6 l6.length cp6])] a6 cp6 l6 none 0 [] none 0 [] none 0 [] none 0 [] ((((V5.setCell ⟨C1, 0, none⟩ (.int .i64 m2)).setCell ⟨C1, 1, none⟩ (.int .i64 y2)).setCell ⟨C1, 2, none⟩ (.int .i64 z2)).setCell ⟨C1, 3, none⟩ (.int .i64 p2)) := k8_2.p6 3 (.int .i64 p2)
    have k8_4 : Sw w C0 [] [(C7, 50, #[.int .i64 u6, .int .i64 n6, .slice a6 l6.length cp6]), (C6, 90, #[.int .i64 1, .int .i64 (xf - u), .int .i64 xf, .int .i64 (n - u), .int .i64 n]), (C5, 48, #[.int .i64 m, .int .i64 y, .int .i64 z, .int .i64 p, .int .i64 d, .int .i64 o, .int .i64 g]), (C4, 48, #[.int .i64 0, .int .i64 0, .int .i64 0, .int .i64 0, .int .i64 0, .int .i64 0, .int .i64 0]), (C3, 50, #[.int .i64 0, .int .i64 0, .slice none 0 0]), (C2, 33, #[.int .i64 xk, .int .i64 xf, .int .i64 xn, .slice xa xl.length xc]), (C1, 48, #[.int .i64 m2, .int .i64 y2, .int .i64 z2, .int .i64 p2, .int .i64 d2, .int .i64 o, .int .i64 g]), (C0, 50, #[.int .i64 u6, .int .i64 n6, .slice a6 l6.length cp6])] a6 cp6 l6 none 0 [] none 0 [] none 0 [] none 0 [] (((((V5.setCell ⟨C1, 0, none⟩ (.int .i64 m2)).setCell ⟨C1, 1, none⟩ (.int .i64 y2)).setCell ⟨C1, 2, none⟩ (.int .i64 z2)).setCell ⟨C1, 3, none⟩ (.int .i64 p2)).setCell ⟨C1, 4, none⟩ (.int .i64 d2)) := k8_3.p6 4 (.int .i64 d2)
    have k8_5 : Sw w C0 [] [(C7, 50, #[.int .i64 u6, .int .i64 n6, .slice a6 l6.length cp6]), (C6, 90, #[.int .i64 1, .int .i64 (xf - u), .int .i64 xf, .int .i64 (n - u), .int .i64 n]), (C5, 48, #[.int .i64 m, .int .i64 y, .int .i64 z, .int .i64 p, .int .i64 d, .int .i64 o, .int .i64 g]), (C4, 48, #[.int .i64 0, .int .i64 0, .int .i64 0, .int .i64 0, .int .i64 0, .int .i64 0, .int .i64 0]), (C3, 50, #[.int .i64 0, .int .i64 0, .slice none 0 0]), (C2, 33, #[.int .i64 xk, .int .i64 xf, .int .i64 xn, .slice xa xl.length xc]), (C1, 48, #[.int .i64 m2, .int .i64 y2, .int .i64 z2, .int .i64 p2, .int .i64 d2, .int .i64 o2, .int .i64 g]), (C0, 50, #[.int .i64 u6, .int .i64 n6, .slice a6 l6.length cp6])] a6 cp6 l6 none 0 [] none 0 [] none 0 [] none 0 [] ((((((V5.setCell ⟨C1, 0, none⟩ (.int .i64 m2)).setCell ⟨C1, 1, none⟩ (.int .i64 y2)).setCell ⟨C1, 2, none⟩ (.int .i64 z2)).setCell ⟨C1, 3, none⟩ (.int .i64 p2)).setCell ⟨C1, 4, none⟩ (.int .i64 d2)).setCell ⟨C1, 5, none⟩ (.int .i64 o2)) := k8_4.p6 5 (.int .i64 o2)
    have k8_6 : Sw w C0 [] [(C7, 50, #[.int .i64 u6, .int .i64 n6, .slice a6 l6.length cp6]), (C6, 90, #[.int .i64 1, .int .i64 (xf - u), .int .i64 xf, .int .i64 (n - u), .int .i64 n]), (C5, 48, #[.int .i64 m, .int .i64 y, .int .i64 z, .int .i64 p, .int .i64 d, .int .i64 o, .int .i64 g]), (C4, 48, #[.int .i64 0, .int .i64 0, .int .i64 0, .int .i64 0, .int .i64 0, .int .i64 0, .int .i64 0]), (C3, 50, #[.int .i64 0, .int .i64 0, .slice none 0 0]), (C2, 33, #[.int .i64 xk, .int .i64 xf, .int .i64 xn, .slice xa xl.length xc]), (C1, 48, #[.int .i64 m2, .int .i64 y2, .int .i64 z2, .int .i64 p2, .int .i64 d2, .int .i64 o2, .int .i64 g2]), (C0, 50, #[.int .i64 u6, .int .i64 n6, .slice a6 l6.length cp6])] a6 cp6 l6 none 0 [] none 0 [] none 0 [] none 0 [] (((((((V5.setCell ⟨C1, 0, none⟩ (.int .i64 m2)).setCell ⟨C1, 1, none⟩ (.int .i64 y2)).setCell ⟨C1, 2, none⟩ (.int .i64 z2)).setCell ⟨C1, 3, none⟩ (.int .i64 p2)).setCell ⟨C1, 4, none⟩ (.int .i64 d2)).setCell ⟨C1, 5, none⟩ (.int .i64 o2)).setCell ⟨C1, 6, none⟩ (.int .i64 g2)) := k8_5.p6 6 (.int .i64 g2)
    have H9 := Lib.hid k8_6
    clear k8_0 k8_1 k8_2 k8_3 k8_4 k8_5 k8_6
    go_upto_region 13 with fail
    clear lr H8 c0 f0 c1 f1 c2 f2 c3 f3 c4 f4 c5 f5 c6 f6
    generalize (((((((V5.setCell ⟨C1, 0, none⟩ (.int .i64 m2)).setCell ⟨C1, 1, none⟩ (.int .i64 y2)).setCell ⟨C1, 2, none⟩ (.int .i64 z2)).setCell ⟨C1, 3, none⟩ (.int .i64 p2)).setCell ⟨C1, 4, none⟩ (.int .i64 d2)).setCell ⟨C1, 5, none⟩ (.int .i64 o2)).setCell ⟨C1, 6, none⟩ (.int .i64 g2)) = V6 at *
    have a3 : (V6).cell? ⟨C1, 3, none⟩ = some (.int .i64 p2) := H9.out.b6.c 3 rfl
    have b3 : (V6).cell? ⟨C5, 3, none⟩ = some (.int .i64 p) := H9.out.b2.c 3 rfl
    have d0 : (V6).cell? ⟨C6, 0, none⟩ = some (.int .i64 1) := H9.out.b1.c 0 rfl
    go_cut [1, 13] (fun s1 s13 wx => ∃ b : Bool, s1 = .agg #[.int .i64 m, .int .i64 y, .int .i64 z, .int .i64 p, .int .i64 d, .int .i64 o, .int .i64 g] ∧ s13 = .bool b ∧ Sw w C0 [] [(C7, 50, #[.int .i64 u6, .int .i64 n6, .slice a6 l6.length cp6]), (C6, 90, #[.int .i64 1, .int .i64 (xf - u), .int .i64 xf, .int .i64 (n - u), .int .i64 n]), (C5, 48, #[.int .i64 m, .int .i64 y, .int .i64 z, .int .i64 p, .int .i64 d, .int .i64 o, .int .i64 g]), (C4, 48, #[.int .i64 0, .int .i64 0, .int .i64 0, .int .i64 0, .int .i64 0, .int .i64 0, .int .i64 0]), (C3, 50, #[.int .i64 0, .int .i64 0, .slice none 0 0]), (C2, 33, #[.int .i64 xk, .int .i64 xf, .int .i64 xn, .slice xa xl.length xc]), (C1, 48, #[.int .i64 m2, .int .i64 y2, .int .i64 z2, .int .i64 p2, .int .i64 d2, .int .i64 o2, .int .i64 g2]), (C0, 50, #[.int .i64 u6, .int .i64 n6, .slice a6 l6.length cp6])] a6 cp6 l6 none 0 [] none 0 [] none 0 [] none 0 [] wx)
    case first =>
      cases h3 : ((p2 : Int) == 3)
      all_goals cases h4 : ((p : Int) == 3)
      all_goals go_wp2_with fail
      all_goals go_meet
      all_goals exact ⟨_, by first | rfl | simp_all, rfl, H9.out⟩
    case rest =>
      clear a3 b3 d0 H9
      obtain ⟨bb, rfl, rfl, hs⟩ := hcut
      generalize hwc : wc = V7 at *
      clear hwc
      have HT := Lib.hid hs
      clear hs
      go_upto_region 14 with fail
      refine wp_region_held_drew (S := fun w' => w'.cell? ⟨C0, 0, none⟩ = some (.int .i64 u6) ∧ w'.cell? ⟨C0, 1, none⟩ = some (.int .i64 n6) ∧ w'.cell? ⟨C0, 2, none⟩ = some (.slice a6 l6.length cp6) ∧ w'.cell? ⟨C1, 0, none⟩ = some (.int .i64 m2) ∧ w'.cell? ⟨C1, 1, none⟩ = some (.int .i64 y2) ∧ w'.cell? ⟨C1, 2, none⟩ = some (.int .i64 z2) ∧ w'.cell? ⟨C1, 3, none⟩ = some (.int .i64 p2) ∧ w'.cell? ⟨C1, 4, none⟩ = some (.int .i64 d2) ∧ w'.cell? ⟨C1, 5, none⟩ = some (.int .i64 o2) ∧ w'.cell? ⟨C1, 6, none⟩ = some (.int .i64 g2)) (by kernel_rfl) (by have hd := HT.out.keep (grownBy_drew (r := none)); exact ⟨(hd).b7.c 0 rfl, (hd).b7.c 1 rfl, (hd).b7.c 2 rfl, (hd).b6.c 0 rfl, (hd).b6.c 1 rfl, (hd).b6.c 2 rfl, (hd).b6.c 3 rfl, (hd).b6.c 4 rfl, (hd).b6.c 5 rfl, (hd).b6.c 6 rfl⟩) (fun hS => ?_)
      have HD0 := Lib.hid (HT.out.keep (grownBy_drew (r := none)))
      refine wpAnyH_take (i := 0) (v := ?_) rfl (by kernel_rfl) (by kernel_rfl) (by kernel_rfl) (fun _ _ _ h => h) (Or.inl ⟨by kernel_rfl, ?_⟩) hS ?_
      rotate_left
      · intro w' hSw
        obtain ⟨g0, g1, g2, g3, g4, g5, g6, g7, g8, g9⟩ := hSw
        first | (go_simp; done) | (go_simp; with_reducible rfl)
      simp only [List.getElem_toArray, List.getElem_cons_zero, Act.put, List.setIfInBounds_toArray, List.set_cons_zero, List.set_cons_succ]
      refine wpAnyH_take (i := 1) (v := ?_) rfl (by kernel_rfl) (by kernel_rfl) (by kernel_rfl) (fun _ _ _ h => h) (Or.inl ⟨by kernel_rfl, ?_⟩) hS ?_
      rotate_left
      · intro w' hSw
        obtain ⟨g0, g1, g2, g3, g4, g5, g6, g7, g8, g9⟩ := hSw
        first | (go_simp; done) | (go_simp; with_reducible rfl)
      simp only [List.getElem_toArray, List.getElem_cons_zero, List.getElem_cons_succ, Act.put, List.setIfInBounds_toArray, List.set_cons_zero, List.set_cons_succ]
      refine wpAnyH_take (i := 2) (v := ?_) rfl (by kernel_rfl) (by kernel_rfl) (by kernel_rfl) (fun _ _ _ h => h) (Or.inl ⟨by kernel_rfl, ?_⟩) hS ?_
      rotate_left
      · intro w' hSw
        obtain ⟨g0, g1, g2, g3, g4, g5, g6, g7, g8, g9⟩ := hSw
        first | (go_simp; done) | (go_simp; with_reducible rfl)
      simp only [List.getElem_toArray, List.getElem_cons_zero, List.getElem_cons_succ, Act.put, List.setIfInBounds_toArray, List.set_cons_zero, List.set_cons_succ]
      refine wpAnyH_ready (rs := [3]) (by kernel_rfl) (List.cons_ne_nil _ _) ?_
      refine AllReadyH.cons rfl (fun K hK => ?_) AllReadyH.nil
      generalize V7.drew = Wd at *
      have zz0 : (Wd).cell? ⟨C3, 0, none⟩ = some (.int .i64 0) := HD0.out.b4.c 0 rfl
      have zz1 : (Wd).cell? ⟨C3, 1, none⟩ = some (.int .i64 0) := HD0.out.b4.c 1 rfl
      have zz2 : (Wd).cell? ⟨C3, 2, none⟩ = some (.slice none 0 0) := HD0.out.b4.c 2 rfl
      have f0 := HD0.out.b4.f 0
      have f1 := HD0.out.b4.f 1
      have f2 := HD0.out.b4.f 2
      have lr := HD0.out.b4.lt
      go_simp
      have k9_0 : Sw w C0 [] [(C7, 50, #[.int .i64 u6, .int .i64 n6, .slice a6 l6.length cp6]), (C6, 90, #[.int .i64 1, .int .i64 (xf - u), .int .i64 xf, .int .i64 (n - u), .int .i64 n]), (C5, 48, #[.int .i64 m, .int .i64 y, .int .i64 z, .int .i64 p, .int .i64 d, .int .i64 o, .int .i64 g]), (C4, 48, #[.int .i64 0, .int .i64 0, .int .i64 0, .int .i64 0, .int .i64 0, .int .i64 0, .int .i64 0]), (C3, 50, #[.int .i64 u6, .int .i64 0, .slice none 0 0]), (C2, 33, #[.int .i64 xk, .int .i64 xf, .int .i64 xn, .slice xa xl.length xc]), (C1, 48, #[.int .i64 m2, .int .i64 y2, .int .i64 z2, .int .i64 p2, .int .i64 d2, .int .i64 o2, .int .i64 g2]), (C0, 50, #[.int .i64 u6, .int .i64 n6, .slice a6 l6.length cp6])] a6 cp6 l6 none 0 [] none 0 [] none 0 [] none 0 [] (Wd.setCell ⟨C3, 0, none⟩ (.int .i64 u6)) := HD0.out.p4 0 (.int .i64 u6)
      have k9_1 : Sw w C0 [] [(C7, 50, #[.int .i64 u6, .int .i64 n6, .slice a6 l6.length cp6]), (C6, 90, #[.int .i64 1, .int .i64 (xf - u), .int .i64 xf, .int .i64 (n - u), .int .i64 n]), (C5, 48, #[.int .i64 m, .int .i64 y, .int .i64 z, .int .i64 p, .int .i64 d, .int .i64 o, .int .i64 g]), (C4, 48, #[.int .i64 0, .int .i64 0, .int .i64 0, .int .i64 0, .int .i64 0, .int .i64 0, .int .i64 0]), (C3, 50, #[.int .i64 u6, .int .i64 n6, .slice none 0 0]), (C2, 33, #[.int .i64 xk, .int .i64 xf, .int .i64 xn, .slice xa xl.length xc]), (C1, 48, #[.int .i64 m2, .int .i64 y2, .int .i64 z2, .int .i64 p2, .int .i64 d2, .int .i64 o2, .int .i64 g2]), (C0, 50, #[.int .i64 u6, .int .i64 n6, .slice a6 l6.length cp6])] a6 cp6 l6 none 0 [] none 0 [] none 0 [] none 0 [] ((Wd.setCell ⟨C3, 0, none⟩ (.int .i64 u6)).setCell ⟨C3, 1, none⟩ (.int .i64 n6)) := k9_0.p4 1 (.int .i64 n6)
      have k9_2 : Sw w C0 [] [(C7, 50, #[.int .i64 u6, .int .i64 n6, .slice a6 l6.length cp6]), (C6, 90, #[.int .i64 1, .int .i64 (xf - u), .int .i64 xf, .int .i64 (n - u), .int .i64 n]), (C5, 48, #[.int .i64 m, .int .i64 y, .int .i64 z, .int .i64 p, .int .i64 d, .int .i64 o, .int .i64 g]), (C4, 48, #[.int .i64 0, .int .i64 0, .int .i64 0, .int .i64 0, .int .i64 0, .int .i64 0, .int .i64 0]), (C3, 50, #[.int .i64 u6, .int .i64 n6, .slice a6 l6.length cp6]), (C2, 33, #[.int .i64 xk, .int .i64 xf, .int .i64 xn, .slice xa xl.length xc]), (C1, 48, #[.int .i64 m2, .int .i64 y2, .int .i64 z2, .int .i64 p2, .int .i64 d2, .int .i64 o2, .int .i64 g2]), (C0, 50, #[.int .i64 u6, .int .i64 n6, .slice a6 l6.length cp6])] a6 cp6 l6 none 0 [] none 0 [] none 0 [] none 0 [] (((Wd.setCell ⟨C3, 0, none⟩ (.int .i64 u6)).setCell ⟨C3, 1, none⟩ (.int .i64 n6)).setCell ⟨C3, 2, none⟩ (.slice a6 l6.length cp6)) := k9_1.p4 2 (.slice a6 l6.length cp6)
      refine gen_wr (P := fun V => Sw w C0 [] [(C7, 50, #[.int .i64 u6, .int .i64 n6, .slice a6 l6.length cp6]), (C6, 90, #[.int .i64 1, .int .i64 (xf - u), .int .i64 xf, .int .i64 (n - u), .int .i64 n]), (C5, 48, #[.int .i64 m, .int .i64 y, .int .i64 z, .int .i64 p, .int .i64 d, .int .i64 o, .int .i64 g]), (C4, 48, #[.int .i64 0, .int .i64 0, .int .i64 0, .int .i64 0, .int .i64 0, .int .i64 0, .int .i64 0]), (C3, 50, #[.int .i64 u6, .int .i64 n6, .slice a6 l6.length cp6]), (C2, 33, #[.int .i64 xk, .int .i64 xf, .int .i64 xn, .slice xa xl.length xc]), (C1, 48, #[.int .i64 m2, .int .i64 y2, .int .i64 z2, .int .i64 p2, .int .i64 d2, .int .i64 o2, .int .i64 g2]), (C0, 50, #[.int .i64 u6, .int .i64 n6, .slice a6 l6.length cp6])] a6 cp6 l6 none 0 [] none 0 [] none 0 [] none 0 [] V) k9_2 (fun uy hz => ?_)
      clear lr zz0 f0 zz1 f1 zz2 f2 k9_0 k9_1 k9_2
      have HD1 := Lib.hid hz
      clear hz
      refine hK.out _ _ (⟨(HD1.out).b7.c 0 rfl, (HD1.out).b7.c 1 rfl, (HD1.out).b7.c 2 rfl, (HD1.out).b6.c 0 rfl, (HD1.out).b6.c 1 rfl, (HD1.out).b6.c 2 rfl, (HD1.out).b6.c 3 rfl, (HD1.out).b6.c 4 rfl, (HD1.out).b6.c 5 rfl, (HD1.out).b6.c 6 rfl⟩) (fun hS => ?_)
      clear hK
      try simp only [List.getElem_toArray, List.getElem_cons_zero, List.getElem_cons_succ, Act.put, List.setIfInBounds_toArray, List.set_cons_zero, List.set_cons_succ]
      refine wpAnyH_ready (rs := [4]) (by kernel_rfl) (List.cons_ne_nil _ _) ?_
      refine AllReadyH.cons rfl (fun K hK => ?_) AllReadyH.nil
      have zz0 : (uy).cell? ⟨C4, 0, none⟩ = some (.int .i64 0) := HD1.out.b3.c 0 rfl
      have zz1 : (uy).cell? ⟨C4, 1, none⟩ = some (.int .i64 0) := HD1.out.b3.c 1 rfl
      have zz2 : (uy).cell? ⟨C4, 2, none⟩ = some (.int .i64 0) := HD1.out.b3.c 2 rfl
      have zz3 : (uy).cell? ⟨C4, 3, none⟩ = some (.int .i64 0) := HD1.out.b3.c 3 rfl
      have zz4 : (uy).cell? ⟨C4, 4, none⟩ = some (.int .i64 0) := HD1.out.b3.c 4 rfl
      have zz5 : (uy).cell? ⟨C4, 5, none⟩ = some (.int .i64 0) := HD1.out.b3.c 5 rfl
      have zz6 : (uy).cell? ⟨C4, 6, none⟩ = some (.int .i64 0) := HD1.out.b3.c 6 rfl
      have f0 := HD1.out.b3.f 0
      have f1 := HD1.out.b3.f 1
      have f2 := HD1.out.b3.f 2
      have f3 := HD1.out.b3.f 3
      have f4 := HD1.out.b3.f 4
      have f5 := HD1.out.b3.f 5
      have f6 := HD1.out.b3.f 6
      have lr := HD1.out.b3.lt
      go_simp
      have k10_0 : Sw w C0 [] [(C7, 50, #[.int .i64 u6, .int .i64 n6, .slice a6 l6.length cp6]), (C6, 90, #[.int .i64 1, .int .i64 (xf - u), .int .i64 xf, .int .i64 (n - u), .int .i64 n]), (C5, 48, #[.int .i64 m, .int .i64 y, .int .i64 z, .int .i64 p, .int .i64 d, .int .i64 o, .int .i64 g]), (C4, 48, #[.int .i64 m2, .int .i64 0, .int .i64 0, .int .i64 0, .int .i64 0, .int .i64 0, .int .i64 0]), (C3, 50, #[.int .i64 u6, .int .i64 n6, .slice a6 l6.length cp6]), (C2, 33, #[.int .i64 xk, .int .i64 xf, .int .i64 xn, .slice xa xl.length xc]), (C1, 48, #[.int .i64 m2, .int .i64 y2, .int .i64 z2, .int .i64 p2, .int .i64 d2, .int .i64 o2, .int .i64 g2]), (C0, 50, #[.int .i64 u6, .int .i64 n6, .slice a6 l6.length cp6])] a6 cp6 l6 none 0 [] none 0 [] none 0 [] none 0 [] (uy.setCell ⟨C4, 0, none⟩ (.int .i64 m2)) := HD1.out.p3 0 (.int .i64 m2)
      have k10_1 : Sw w C0 [] [(C7, 50, #[.int .i64 u6, .int .i64 n6, .slice a6 l6.length cp6]), (C6, 90, #[.int .i64 1, .int .i64 (xf - u), .int .i64 xf, .int .i64 (n - u), .int .i64 n]), (C5, 48, #[.int .i64 m, .int .i64 y, .int .i64 z, .int .i64 p, .int .i64 d, .int .i64 o, .int .i64 g]), (C4, 48, #[.int .i64 m2, .int .i64 y2, .int .i64 0, .int .i64 0, .int .i64 0, .int .i64 0, .int .i64 0]), (C3, 50, #[.int .i64 u6, .int .i64 n6, .slice a6 l6.length cp6]), (C2, 33, #[.int .i64 xk, .int .i64 xf, .int .i64 xn, .slice xa xl.length xc]), (C1, 48, #[.int .i64 m2, .int .i64 y2, .int .i64 z2, .int .i64 p2, .int .i64 d2, .int .i64 o2, .int .i64 g2]), (C0, 50, #[.int .i64 u6, .int .i64 n6, .slice a6 l6.length cp6])] a6 cp6 l6 none 0 [] none 0 [] none 0 [] none 0 [] ((uy.setCell ⟨C4, 0, none⟩ (.int .i64 m2)).setCell ⟨C4, 1, none⟩ (.int .i64 y2)) := k10_0.p3 1 (.int .i64 y2)
      have k10_2 : Sw w C0 [] [(C7, 50, #[.int .i64 u6, .int .i64 n6, .slice a6 l6.length cp6]), (C6, 90, #[.int .i64 1, .int .i64 (xf - u), .int .i64 xf, .int .i64 (n - u), .int .i64 n]), (C5, 48, #[.int .i64 m, .int .i64 y, .int .i64 z, .int .i64 p, .int .i64 d, .int .i64 o, .int .i64 g]), (C4, 48, #[.int .i64 m2, .int .i64 y2, .int .i64 z2, .int .i64 0, .int .i64 0, .int .i64 0, .int .i64 0]), (C3, 50, #[.int .i64 u6, .int .i64 n6, .slice a6 l6.length cp6]), (C2, 33, #[.int .i64 xk, .int .i64 xf, .int .i64 xn, .slice xa xl.length xc]), (C1, 48, #[.int .i64 m2, .int .i64 y2, .int .i64 z2, .int .i64 p2, .int .i64 d2, .int .i64 o2, .int .i64 g2]), (C0, 50, #[.int .i64 u6, .int .i64 n6, .slice a6 l6.length cp6])] a6 cp6 l6 none 0 [] none 0 [] none 0 [] none 0 [] (((uy.setCell ⟨C4, 0, none⟩ (.int .i64 m2)).setCell ⟨C4, 1, none⟩ (.int .i64 y2)).setCell ⟨C4, 2, none⟩ (.int .i64 z2)) := k10_1.p3 2 (.int .i64 z2)
      have k10_3 : Sw w C0 [] [(C7, 50, #[.int .i64 u6, .int .i64 n6, .slice a6 l6.length cp6]), (C6, 90, #[.int .i64 1, .int .i64 (xf - u), .int .i64 xf, .int .i64 (n - u), .int .i64 n]), (C5, 48, #[.int .i64 m, .int .i64 y, .int .i64 z, .int .i64 p, .int .i64 d, .int .i64 o, .int .i64 g]), (C4, 48, #[.int .i64 m2, .int .i64 y2, .int .i64 z2, .int .i64 p2, .int .i64 0, .int .i64 0, .int .i64 0]), (C3, 50, #[.int .i64 u6, .int .i64 n6, .slice a6 l6.length cp6]), (C2, 33, #[.int .i64 xk, .int .i64 xf, .int .i64 xn, .slice xa xl.length xc]), (C1, 48, #[.int .i64 m2, .int .i64 y2, .int .i64 z2, .int .i64 p2, .int .i64 d2, .int .i64 o2, .int .i64 g2]), (C0, 50, #[.int .i64 u6, .int .i64 n6, .slice a6 l6.length cp6])] a6 cp6 l6 none 0 [] none 0 [] none 0 [] none 0 [] ((((uy.setCell ⟨C4, 0, none⟩ (.int .i64 m2)).setCell ⟨C4, 1, none⟩ (.int .i64 y2)).setCell ⟨C4, 2, none⟩ (.int .i64 z2)).setCell ⟨C4, 3, none⟩ (.int .i64 p2)) := k10_2.p3 3 (.int .i64 p2)
      have k10_4 : Sw w C0 [] [(C7, 50, #[.int .i64 u6, .int .i64 n6, .slice a6 l6.length cp6]), (C6, 90, #[.int .i64 1, .int .i64 (xf - u), .int .i64 xf, .int .i64 (n - u), .int .i64 n]), (C5, 48, #[.int .i64 m, .int .i64 y, .int .i64 z, .int .i64 p, .int .i64 d, .int .i64 o, .int .i64 g]), (C4, 48, #[.int .i64 m2, .int .i64 y2, .int .i64 z2, .int .i64 p2, .int .i64 d2, .int .i64 0, .int .i64 0]), (C3, 50, #[.int .i64 u6, .int .i64 n6, .slice a6 l6.length cp6]), (C2, 33, #[.int .i64 xk, .int .i64 xf, .int .i64 xn, .slice xa xl.length xc]), (C1, 48, #[.int .i64 m2, .int .i64 y2, .int .i64 z2, .int .i64 p2, .int .i64 d2, .int .i64 o2, .int .i64 g2]), (C0, 50, #[.int .i64 u6, .int .i64 n6, .slice a6 l6.length cp6])] a6 cp6 l6 none 0 [] none 0 [] none 0 [] none 0 [] (((((uy.setCell ⟨C4, 0, none⟩ (.int .i64 m2)).setCell ⟨C4, 1, none⟩ (.int .i64 y2)).setCell ⟨C4, 2, none⟩ (.int .i64 z2)).setCell ⟨C4, 3, none⟩ (.int .i64 p2)).setCell ⟨C4, 4, none⟩ (.int .i64 d2)) := k10_3.p3 4 (.int .i64 d2)
      have k10_5 : Sw w C0 [] [(C7, 50, #[.int .i64 u6, .int .i64 n6, .slice a6 l6.length cp6]), (C6, 90, #[.int .i64 1, .int .i64 (xf - u), .int .i64 xf, .int .i64 (n - u), .int .i64 n]), (C5, 48, #[.int .i64 m, .int .i64 y, .int .i64 z, .int .i64 p, .int .i64 d, .int .i64 o, .int .i64 g]), (C4, 48, #[.int .i64 m2, .int .i64 y2, .int .i64 z2, .int .i64 p2, .int .i64 d2, .int .i64 o2, .int .i64 0]), (C3, 50, #[.int .i64 u6, .int .i64 n6, .slice a6 l6.length cp6]), (C2, 33, #[.int .i64 xk, .int .i64 xf, .int .i64 xn, .slice xa xl.length xc]), (C1, 48, #[.int .i64 m2, .int .i64 y2, .int .i64 z2, .int .i64 p2, .int .i64 d2, .int .i64 o2, .int .i64 g2]), (C0, 50, #[.int .i64 u6, .int .i64 n6, .slice a6 l6.length cp6])] a6 cp6 l6 none 0 [] none 0 [] none 0 [] none 0 [] ((((((uy.setCell ⟨C4, 0, none⟩ (.int .i64 m2)).setCell ⟨C4, 1, none⟩ (.int .i64 y2)).setCell ⟨C4, 2, none⟩ (.int .i64 z2)).setCell ⟨C4, 3, none⟩ (.int .i64 p2)).setCell ⟨C4, 4, none⟩ (.int .i64 d2)).setCell ⟨C4, 5, none⟩ (.int .i64 o2)) := k10_4.p3 5 (.int .i64 o2)
      have k10_6 : Sw w C0 [] [(C7, 50, #[.int .i64 u6, .int .i64 n6, .slice a6 l6.length cp6]), (C6, 90, #[.int .i64 1, .int .i64 (xf - u), .int .i64 xf, .int .i64 (n - u), .int .i64 n]), (C5, 48, #[.int .i64 m, .int .i64 y, .int .i64 z, .int .i64 p, .int .i64 d, .int .i64 o, .int .i64 g]), (C4, 48, #[.int .i64 m2, .int .i64 y2, .int .i64 z2, .int .i64 p2, .int .i64 d2, .int .i64 o2, .int .i64 g2]), (C3, 50, #[.int .i64 u6, .int .i64 n6, .slice a6 l6.length cp6]), (C2, 33, #[.int .i64 xk, .int .i64 xf, .int .i64 xn, .slice xa xl.length xc]), (C1, 48, #[.int .i64 m2, .int .i64 y2, .int .i64 z2, .int .i64 p2, .int .i64 d2, .int .i64 o2, .int .i64 g2]), (C0, 50, #[.int .i64 u6, .int .i64 n6, .slice a6 l6.length cp6])] a6 cp6 l6 none 0 [] none 0 [] none 0 [] none 0 [] (((((((uy.setCell ⟨C4, 0, none⟩ (.int .i64 m2)).setCell ⟨C4, 1, none⟩ (.int .i64 y2)).setCell ⟨C4, 2, none⟩ (.int .i64 z2)).setCell ⟨C4, 3, none⟩ (.int .i64 p2)).setCell ⟨C4, 4, none⟩ (.int .i64 d2)).setCell ⟨C4, 5, none⟩ (.int .i64 o2)).setCell ⟨C4, 6, none⟩ (.int .i64 g2)) := k10_5.p3 6 (.int .i64 g2)
      refine gen_wr (P := fun V => Sw w C0 [] [(C7, 50, #[.int .i64 u6, .int .i64 n6, .slice a6 l6.length cp6]), (C6, 90, #[.int .i64 1, .int .i64 (xf - u), .int .i64 xf, .int .i64 (n - u), .int .i64 n]), (C5, 48, #[.int .i64 m, .int .i64 y, .int .i64 z, .int .i64 p, .int .i64 d, .int .i64 o, .int .i64 g]), (C4, 48, #[.int .i64 m2, .int .i64 y2, .int .i64 z2, .int .i64 p2, .int .i64 d2, .int .i64 o2, .int .i64 g2]), (C3, 50, #[.int .i64 u6, .int .i64 n6, .slice a6 l6.length cp6]), (C2, 33, #[.int .i64 xk, .int .i64 xf, .int .i64 xn, .slice xa xl.length xc]), (C1, 48, #[.int .i64 m2, .int .i64 y2, .int .i64 z2, .int .i64 p2, .int .i64 d2, .int .i64 o2, .int .i64 g2]), (C0, 50, #[.int .i64 u6, .int .i64 n6, .slice a6 l6.length cp6])] a6 cp6 l6 none 0 [] none 0 [] none 0 [] none 0 [] V) k10_6 (fun uz hz => ?_)
      clear lr zz0 f0 zz1 f1 zz2 f2 zz3 f3 zz4 f4 zz5 f5 zz6 f6 k10_0 k10_1 k10_2 k10_3 k10_4 k10_5 k10_6
      have HD2 := Lib.hid hz
      clear hz
      refine hK.out _ _ (⟨(HD2.out).b7.c 0 rfl, (HD2.out).b7.c 1 rfl, (HD2.out).b7.c 2 rfl, (HD2.out).b6.c 0 rfl, (HD2.out).b6.c 1 rfl, (HD2.out).b6.c 2 rfl, (HD2.out).b6.c 3 rfl, (HD2.out).b6.c 4 rfl, (HD2.out).b6.c 5 rfl, (HD2.out).b6.c 6 rfl⟩) (fun hS => ?_)
      clear hK
      try simp only [List.getElem_toArray, List.getElem_cons_zero, List.getElem_cons_succ, Act.put, List.setIfInBounds_toArray, List.set_cons_zero, List.set_cons_succ]
      refine wpAnyH_take (i := 5) (v := ?_) rfl (by kernel_rfl) (by kernel_rfl) (by kernel_rfl) (fun _ _ _ h => h) (Or.inl ⟨by kernel_rfl, ?_⟩) hS ?_
      rotate_left
      · intro w' hSw
        obtain ⟨g0, g1, g2, g3, g4, g5, g6, g7, g8, g9⟩ := hSw
        first | (go_simp; done) | (go_simp; with_reducible rfl)
      simp only [List.getElem_toArray, List.getElem_cons_zero, List.getElem_cons_succ, Act.put, List.setIfInBounds_toArray, List.set_cons_zero, List.set_cons_succ]
      refine wpAnyH_done (by kernel_rfl) ?_ _
      have r0 : (uz).cell? ⟨C3, 0, none⟩ = some (.int .i64 u6) := HD2.out.b4.c 0 rfl
      have r1 : (uz).cell? ⟨C3, 1, none⟩ = some (.int .i64 n6) := HD2.out.b4.c 1 rfl
      have r2 : (uz).cell? ⟨C3, 2, none⟩ = some (.slice a6 l6.length cp6) := HD2.out.b4.c 2 rfl
      have s0 : (uz).cell? ⟨C4, 0, none⟩ = some (.int .i64 m2) := HD2.out.b3.c 0 rfl
      have s1 : (uz).cell? ⟨C4, 1, none⟩ = some (.int .i64 y2) := HD2.out.b3.c 1 rfl
      have s2 : (uz).cell? ⟨C4, 2, none⟩ = some (.int .i64 z2) := HD2.out.b3.c 2 rfl
      have s3 : (uz).cell? ⟨C4, 3, none⟩ = some (.int .i64 p2) := HD2.out.b3.c 3 rfl
      have s4 : (uz).cell? ⟨C4, 4, none⟩ = some (.int .i64 d2) := HD2.out.b3.c 4 rfl
      have s5 : (uz).cell? ⟨C4, 5, none⟩ = some (.int .i64 o2) := HD2.out.b3.c 5 rfl
      have s6 : (uz).cell? ⟨C4, 6, none⟩ = some (.int .i64 g2) := HD2.out.b3.c 6 rfl
      go_wp2_with fail
      refine bodyPost_ret (v := .tuple #[.agg #[.int .i64 u6, .int .i64 n6, .slice a6 l6.length cp6], .agg #[.int .i64 m2, .int .i64 y2, .int .i64 z2, .int .i64 p2, .int .i64 d2, .int .i64 o2, .int .i64 g2], .bool bb]) (by simp [results, Try.results48, go_sem, r0, r1, r2, s0, s1, s2, s3, s4, s5, s6]) rfl ?_
      exact ⟨_, _, _, _, _, _, _, _, _, _, _, _, _, rfl, HD2.out.k.grown (World.grownBy.refl _ _) (Nat.le_of_eq HCC.out.symm), HD2.out.l.s, HD2.out.l.ss.lt, HB6.out⟩

set_option maxRecDepth 100000 in
set_option maxHeartbeats 8000000 in
theorem heard_D (u n : Int) (sa : Option Addr) (sc : Nat) (sl : List Rg) (m y z p d o g : Int) (xk xf xn : Int) (xa : Option Addr) (xc : Nat) (xl : List Rg) (w : World) (h : RowOk w sa sc sl) (hs : ∀ b, bkA sa = some b → b < w.heap.size) (hsl : sl.length ≤ 1000) (hx : RgAt w xa xl) (hxl : xl.length ≤ 1000) (hrn : rnOk ⟨m, y, z, p, d, o, g⟩ = true) (hu0 : 0 ≤ u) (hun : u ≤ n) (hn9 : n ≤ 1000000000) (hxf0 : 0 ≤ xf) (hxf1 : xf ≤ 1000000000) (hA1 : ¬ u < xf) (hB1 : xf = u) (hB2 : ¬ n = u) :
    Calls Try.prog 48 #[.agg #[.int .i64 u, .int .i64 n, .slice sa sl.length sc], .agg #[.int .i64 m, .int .i64 y, .int .i64 z, .int .i64 p, .int .i64 d, .int .i64 o, .int .i64 g], .agg #[.int .i64 xk, .int .i64 xf, .int .i64 xn, .slice xa xl.length xc]] w (HdPost w sa sc sl) := by
  have hxn : xf ≤ n := by omega
  have q1 : ((n : Int) == u) = false := by simpa using hB2
  have q2 : ((xf : Int) == u) = true := by simpa using hB1
  have q3 : (!((xf : Int) == u)) = false := by rw [q2]; rfl
  have q4 : ((xf : Int) != u) = false := by simp [hB1]
  clear hB1
  have HX := Lib.hid (And.intro hx hxl)
  have HB0 := Lib.hid hsl
  have _ := And.intro hu0 (And.intro hun (And.intro hn9 (And.intro hxf0 hxf1)))
  have _ := hrn
  have hw : IntKind.i64.wrap (n - u) = n - u := IntWalk.i64_in _ (by omega)
  obtain ⟨C0, hC0⟩ : ∃ C, C = w.heap.size := ⟨_, rfl⟩
  obtain ⟨C1, hC1⟩ : ∃ C, C = w.heap.size + 1 := ⟨_, rfl⟩
  obtain ⟨C2, hC2⟩ : ∃ C, C = w.heap.size + 1 + 1 := ⟨_, rfl⟩
  obtain ⟨C3, hC3⟩ : ∃ C, C = w.heap.size + 1 + 1 + 1 := ⟨_, rfl⟩
  obtain ⟨C4, hC4⟩ : ∃ C, C = w.heap.size + 1 + 1 + 1 + 1 := ⟨_, rfl⟩
  have k := ((((((Sw.start (LwAt.board w h hs) (Nat.le_refl _)).new 50 #[.int .i64 u, .int .i64 n, .slice sa sl.length sc]).new 48 #[.int .i64 m, .int .i64 y, .int .i64 z, .int .i64 p, .int .i64 d, .int .i64 o, .int .i64 g]).new 33 #[.int .i64 xk, .int .i64 xf, .int .i64 xn, .slice xa xl.length xc]).new 50 #[.int .i64 0, .int .i64 0, .slice none 0 0]).new 48 #[.int .i64 0, .int .i64 0, .int .i64 0, .int .i64 0, .int .i64 0, .int .i64 0, .int .i64 0])
  simp only [World.size_alloc] at k
  rw [← hC4, ← hC3, ← hC2, ← hC1, ← hC0] at k
  have H0 := Lib.hid k
  clear k h hs
  go_enter Try.func48, Try.ntmps48
  go_upto_region 1 with fail
  try simp only [World.size_alloc]
  try rw [← hC4]
  try rw [← hC3]
  try rw [← hC2]
  try rw [← hC1]
  try rw [← hC0]
  have HCC := Lib.hid hC0
  clear hC0 hC1 hC2 hC3 hC4
  generalize (((((w.alloc (.cells #[.int .i64 u, .int .i64 n, .slice sa sl.length sc] 50)).alloc (.cells #[.int .i64 m, .int .i64 y, .int .i64 z, .int .i64 p, .int .i64 d, .int .i64 o, .int .i64 g] 48)).alloc (.cells #[.int .i64 xk, .int .i64 xf, .int .i64 xn, .slice xa xl.length xc] 33)).alloc (.cells #[.int .i64 0, .int .i64 0, .slice none 0 0] 50)).alloc (.cells #[.int .i64 0, .int .i64 0, .int .i64 0, .int .i64 0, .int .i64 0, .int .i64 0, .int .i64 0] 48)) = W0 at *
  have c0 : (W0).cell? ⟨C1, 0, none⟩ = some (.int .i64 m) := H0.out.b3.c 0 rfl
  have c1 : (W0).cell? ⟨C1, 1, none⟩ = some (.int .i64 y) := H0.out.b3.c 1 rfl
  have c2 : (W0).cell? ⟨C1, 2, none⟩ = some (.int .i64 z) := H0.out.b3.c 2 rfl
  have c3 : (W0).cell? ⟨C1, 3, none⟩ = some (.int .i64 p) := H0.out.b3.c 3 rfl
  have c4 : (W0).cell? ⟨C1, 4, none⟩ = some (.int .i64 d) := H0.out.b3.c 4 rfl
  have c5 : (W0).cell? ⟨C1, 5, none⟩ = some (.int .i64 o) := H0.out.b3.c 5 rfl
  have c6 : (W0).cell? ⟨C1, 6, none⟩ = some (.int .i64 g) := H0.out.b3.c 6 rfl
  have H1 := Lib.hid (H0.out.new 48 #[.int .i64 m, .int .i64 y, .int .i64 z, .int .i64 p, .int .i64 d, .int .i64 o, .int .i64 g])
  go_upto_region 2 with fail
  clear H0 c0 c1 c2 c3 c4 c5 c6
  generalize W0.alloc (.cells #[.int .i64 m, .int .i64 y, .int .i64 z, .int .i64 p, .int .i64 d, .int .i64 o, .int .i64 g] 48) = W1 at *
  generalize W0.heap.size = C5 at *
  have x1 : (W1).cell? ⟨C2, 1, none⟩ = some (.int .i64 xf) := H1.out.b3.c 1 rfl
  have c0 : (W1).cell? ⟨C0, 0, none⟩ = some (.int .i64 u) := H1.out.b5.c 0 rfl
  have c1 : (W1).cell? ⟨C0, 1, none⟩ = some (.int .i64 n) := H1.out.b5.c 1 rfl
  have H2 := Lib.hid (H1.out.new 90 #[.int .i64 2, .int .i64 0, .int .i64 xf, .int .i64 (n - u), .int .i64 n])
  go_upto_region 3 with fail
  clear H1 x1 c0 c1
  generalize W1.alloc (.cells #[.int .i64 2, .int .i64 0, .int .i64 xf, .int .i64 (n - u), .int .i64 n] 90) = W2 at *
  generalize W1.heap.size = C6 at *
  have x1 : (W2).cell? ⟨C2, 1, none⟩ = some (.int .i64 xf) := H2.out.b4.c 1 rfl
  have c0 : (W2).cell? ⟨C0, 0, none⟩ = some (.int .i64 u) := H2.out.b6.c 0 rfl
  have c1 : (W2).cell? ⟨C0, 1, none⟩ = some (.int .i64 n) := H2.out.b6.c 1 rfl
  have HBR := Lib.hid (show BrN w sa sc sl sa sc sl from ⟨HB0.out, .inl ⟨rfl, rfl, rfl⟩⟩)
  have hev : evOk ⟨2, 0, xf, n - u, n⟩ = true := by simp [evOk]; omega
  go_upto_region 9 with fail
  clear x1 c0 c1
  have c0 : (W2).cell? ⟨C0, 0, none⟩ = some (.int .i64 u) := H2.out.b6.c 0 rfl
  have c1 : (W2).cell? ⟨C0, 1, none⟩ = some (.int .i64 n) := H2.out.b6.c 1 rfl
  have c2 : (W2).cell? ⟨C0, 2, none⟩ = some (.slice sa sl.length sc) := H2.out.b6.c 2 rfl
  have x3 : (W2).cell? ⟨C2, 3, none⟩ = some (.slice xa xl.length xc) := H2.out.b4.c 3 rfl
  go_wp2_with fail
  refine (sack_spec u n sa sc sl xa xc xl _ H2.out.l.s (by have := HBR.out.1; omega) (HX.out.1.kept (H2.out.k.grown (World.grownBy.refl _ _) (Nat.le_of_eq HCC.out.symm))) (by have := HX.out.2; omega)).mono ?_
  rintro e V3 ⟨a6, cp6, rfl, hg, ho⟩
  have hl6 := sackL_len u n sl xl
  generalize sackL u n sl xl = Q6 at *
  obtain ⟨u6, n6, l6, b6⟩ := Q6
  dsimp only at ho hl6 ⊢
  have HA := Lib.hid ((H2.out.keep hg).new 50 #[.int .i64 u6, .int .i64 n6, .slice a6 l6.length cp6])
  have HB := Lib.hid ((H2.out.newS hg ho).new 50 #[.int .i64 u6, .int .i64 n6, .slice a6 l6.length cp6])
  have HB6 := Lib.hid (show BrN w sa sc sl a6 cp6 l6 from ⟨by omega, .inr fun b hb => Nat.le_trans H2.out.k.size (own_lt ho b hb).1⟩)
  clear hg ho hl6 c0 c1 c2 x3
  go_upto_region 10 with fail
  generalize V3.alloc (.cells #[.int .i64 u6, .int .i64 n6, .slice a6 l6.length cp6] 50) = V4 at *
  generalize V3.heap.size = C7 at *
  cases b6
  · have c0 : (V4).cell? ⟨C1, 0, none⟩ = some (.int .i64 m) := HA.out.b6.c 0 rfl
    have c1 : (V4).cell? ⟨C1, 1, none⟩ = some (.int .i64 y) := HA.out.b6.c 1 rfl
    have c2 : (V4).cell? ⟨C1, 2, none⟩ = some (.int .i64 z) := HA.out.b6.c 2 rfl
    have c3 : (V4).cell? ⟨C1, 3, none⟩ = some (.int .i64 p) := HA.out.b6.c 3 rfl
    have c4 : (V4).cell? ⟨C1, 4, none⟩ = some (.int .i64 d) := HA.out.b6.c 4 rfl
    have c5 : (V4).cell? ⟨C1, 5, none⟩ = some (.int .i64 o) := HA.out.b6.c 5 rfl
    have c6 : (V4).cell? ⟨C1, 6, none⟩ = some (.int .i64 g) := HA.out.b6.c 6 rfl
    have e0 : (V4).cell? ⟨C6, 0, none⟩ = some (.int .i64 2) := HA.out.b1.c 0 rfl
    have e1 : (V4).cell? ⟨C6, 1, none⟩ = some (.int .i64 0) := HA.out.b1.c 1 rfl
    have e2 : (V4).cell? ⟨C6, 2, none⟩ = some (.int .i64 xf) := HA.out.b1.c 2 rfl
    have e3 : (V4).cell? ⟨C6, 3, none⟩ = some (.int .i64 (n - u)) := HA.out.b1.c 3 rfl
    have e4 : (V4).cell? ⟨C6, 4, none⟩ = some (.int .i64 n) := HA.out.b1.c 4 rfl
    go_wp2_with fail
    refine (rs_stepL m y z p d o g 2 0 xf (n - u) n _ hrn hev).mono ?_
    rintro e V5 ⟨rfl, hg⟩
    have H8 := Lib.hid (HA.out.keep hg)
    try clear hw2
    clear hev hrn hw
    try clear hA1 hA2
    try clear hB2
    try clear hun hn9 hxf0 hxf1 hu0 hsl hxl
    clear hg c0 c1 c2 c3 c4 c5 c6 e0 e1 e2 e3 e4
    obtain ⟨Q, hQ⟩ : ∃ Q, rnStep ⟨m, y, z, p, d, o, g⟩ ⟨2, 0, xf, (n - u), n⟩ = Q := ⟨_, rfl⟩
    rw [hQ]
    clear hQ
    obtain ⟨m2, y2, z2, p2, d2, o2, g2⟩ := Q
    dsimp only [rnV]
    have c0 : (V5).cell? ⟨C1, 0, none⟩ = some (.int .i64 m) := H8.out.b6.c 0 rfl
    have c1 : (V5).cell? ⟨C1, 1, none⟩ = some (.int .i64 y) := H8.out.b6.c 1 rfl
    have c2 : (V5).cell? ⟨C1, 2, none⟩ = some (.int .i64 z) := H8.out.b6.c 2 rfl
    have c3 : (V5).cell? ⟨C1, 3, none⟩ = some (.int .i64 p) := H8.out.b6.c 3 rfl
    have c4 : (V5).cell? ⟨C1, 4, none⟩ = some (.int .i64 d) := H8.out.b6.c 4 rfl
    have c5 : (V5).cell? ⟨C1, 5, none⟩ = some (.int .i64 o) := H8.out.b6.c 5 rfl
    have c6 : (V5).cell? ⟨C1, 6, none⟩ = some (.int .i64 g) := H8.out.b6.c 6 rfl
    have f0 := H8.out.b6.f 0
    have f1 := H8.out.b6.f 1
    have f2 := H8.out.b6.f 2
    have f3 := H8.out.b6.f 3
    have f4 := H8.out.b6.f 4
    have f5 := H8.out.b6.f 5
    have f6 := H8.out.b6.f 6
    have lr := H8.out.b6.lt
    have k11_0 : Sw w C0 [] [(C7, 50, #[.int .i64 u6, .int .i64 n6, .slice a6 l6.length cp6]), (C6, 90, #[.int .i64 2, .int .i64 0, .int .i64 xf, .int .i64 (n - u), .int .i64 n]), (C5, 48, #[.int .i64 m, .int .i64 y, .int .i64 z, .int .i64 p, .int .i64 d, .int .i64 o, .int .i64 g]), (C4, 48, #[.int .i64 0, .int .i64 0, .int .i64 0, .int .i64 0, .int .i64 0, .int .i64 0, .int .i64 0]), (C3, 50, #[.int .i64 0, .int .i64 0, .slice none 0 0]), (C2, 33, #[.int .i64 xk, .int .i64 xf, .int .i64 xn, .slice xa xl.length xc]), (C1, 48, #[.int .i64 m2, .int .i64 y, .int .i64 z, .int .i64 p, .int .i64 d, .int .i64 o, .int .i64 g]), (C0, 50, #[.int .i64 u, .int .i64 n, .slice sa sl.length sc])] sa sc sl none 0 [] none 0 [] none 0 [] none 0 [] (V5.setCell ⟨C1, 0, none⟩ (.int .i64 m2)) := H8.out.p6 0 (.int .i64 m2)
    have k11_1 : Sw w C0 [] [(C7, 50, #[.int .i64 u6, .int .i64 n6, .slice a6 l6.length cp6]), (C6, 90, #[.int .i64 2, .int .i64 0, .int .i64 xf, .int .i64 (n - u), .int .i64 n]), (C5, 48, #[.int .i64 m, .int .i64 y, .int .i64 z, .int .i64 p, .int .i64 d, .int .i64 o, .int .i64 g]), (C4, 48, #[.int .i64 0, .int .i64 0, .int .i64 0, .int .i64 0, .int .i64 0, .int .i64 0, .int .i64 0]), (C3, 50, #[.int .i64 0, .int .i64 0, .slice none 0 0]), (C2, 33, #[.int .i64 xk, .int .i64 xf, .int .i64 xn, .slice xa xl.length xc]), (C1, 48, #[.int .i64 m2, .int .i64 y2, .int .i64 z, .int .i64 p, .int .i64 d, .int .i64 o, .int .i64 g]), (C0, 50, #[.int .i64 u, .int .i64 n, .slice sa sl.length sc])] sa sc sl none 0 [] none 0 [] none 0 [] none 0 [] ((V5.setCell ⟨C1, 0, none⟩ (.int .i64 m2)).setCell ⟨C1, 1, none⟩ (.int .i64 y2)) := k11_0.p6 1 (.int .i64 y2)
    have k11_2 : Sw w C0 [] [(C7, 50, #[.int .i64 u6, .int .i64 n6, .slice a6 l6.length cp6]), (C6, 90, #[.int .i64 2, .int .i64 0, .int .i64 xf, .int .i64 (n - u), .int .i64 n]), (C5, 48, #[.int .i64 m, .int .i64 y, .int .i64 z, .int .i64 p, .int .i64 d, .int .i64 o, .int .i64 g]), (C4, 48, #[.int .i64 0, .int .i64 0, .int .i64 0, .int .i64 0, .int .i64 0, .int .i64 0, .int .i64 0]), (C3, 50, #[.int .i64 0, .int .i64 0, .slice none 0 0]), (C2, 33, #[.int .i64 xk, .int .i64 xf, .int .i64 xn, .slice xa xl.length xc]), (C1, 48, #[.int .i64 m2, .int .i64 y2, .int .i64 z2, .int .i64 p, .int .i64 d, .int .i64 o, .int .i64 g]), (C0, 50, #[.int .i64 u, .int .i64 n, .slice sa sl.length sc])] sa sc sl none 0 [] none 0 [] none 0 [] none 0 [] (((V5.setCell ⟨C1, 0, none⟩ (.int .i64 m2)).setCell ⟨C1, 1, none⟩ (.int .i64 y2)).setCell ⟨C1, 2, none⟩ (.int .i64 z2)) := k11_1.p6 2 (.int .i64 z2)
    have k11_3 : Sw w C0 [] [(C7, 50, #[.int .i64 u6, .int .i64 n6, .slice a6 l6.length cp6]), (C6, 90, #[.int .i64 2, .int .i64 0, .int .i64 xf, .int .i64 (n - u), .int .i64 n]), (C5, 48, #[.int .i64 m, .int .i64 y, .int .i64 z, .int .i64 p, .int .i64 d, .int .i64 o, .int .i64 g]), (C4, 48, #[.int .i64 0, .int .i64 0, .int .i64 0, .int .i64 0, .int .i64 0, .int .i64 0, .int .i64 0]), (C3, 50, #[.int .i64 0, .int .i64 0, .slice none 0 0]), (C2, 33, #[.int .i64 xk, .int .i64 xf, .int .i64 xn, .slice xa xl.length xc]), (C1, 48, #[.int .i64 m2, .int .i64 y2, .int .i64 z2, .int .i64 p2, .int .i64 d, .int .i64 o, .int .i64 g]), (C0, 50, #[.int .i64 u, .int .i64 n, .slice sa sl.length sc])] sa sc sl none 0 [] none 0 [] none 0 [] none 0 [] ((((V5.setCell ⟨C1, 0, none⟩ (.int .i64 m2)).setCell ⟨C1, 1, none⟩ (.int .i64 y2)).setCell ⟨C1, 2, none⟩ (.int .i64 z2)).setCell ⟨C1, 3, none⟩ (.int .i64 p2)) := k11_2.p6 3 (.int .i64 p2)
    have k11_4 : Sw w C0 [] [(C7, 50, #[.int .i64 u6, .int .i64 n6, .slice a6 l6.length cp6]), (C6, 90, #[.int .i64 2, .int .i64 0, .int .i64 xf, .int .i64 (n - u), .int .i64 n]), (C5, 48, #[.int .i64 m, .int .i64 y, .int .i64 z, .int .i64 p, .int .i64 d, .int .i64 o, .int .i64 g]), (C4, 48, #[.int .i64 0, .int .i64 0, .int .i64 0, .int .i64 0, .int .i64 0, .int .i64 0, .int .i64 0]), (C3, 50, #[.int .i64 0, .int .i64 0, .slice none 0 0]), (C2, 33, #[.int .i64 xk, .int .i64 xf, .int .i64 xn, .slice xa xl.length xc]), (C1, 48, #[.int .i64 m2, .int .i64 y2, .int .i64 z2, .int .i64 p2, .int .i64 d2, .int .i64 o, .int .i64 g]), (C0, 50, #[.int .i64 u, .int .i64 n, .slice sa sl.length sc])] sa sc sl none 0 [] none 0 [] none 0 [] none 0 [] (((((V5.setCell ⟨C1, 0, none⟩ (.int .i64 m2)).setCell ⟨C1, 1, none⟩ (.int .i64 y2)).setCell ⟨C1, 2, none⟩ (.int .i64 z2)).setCell ⟨C1, 3, none⟩ (.int .i64 p2)).setCell ⟨C1, 4, none⟩ (.int .i64 d2)) := k11_3.p6 4 (.int .i64 d2)
    have k11_5 : Sw w C0 [] [(C7, 50, #[.int .i64 u6, .int .i64 n6, .slice a6 l6.length cp6]), (C6, 90, #[.int .i64 2, .int .i64 0, .int .i64 xf, .int .i64 (n - u), .int .i64 n]), (C5, 48, #[.int .i64 m, .int .i64 y, .int .i64 z, .int .i64 p, .int .i64 d, .int .i64 o, .int .i64 g]), (C4, 48, #[.int .i64 0, .int .i64 0, .int .i64 0, .int .i64 0, .int .i64 0, .int .i64 0, .int .i64 0]), (C3, 50, #[.int .i64 0, .int .i64 0, .slice none 0 0]), (C2, 33, #[.int .i64 xk, .int .i64 xf, .int .i64 xn, .slice xa xl.length xc]), (C1, 48, #[.int .i64 m2, .int .i64 y2, .int .i64 z2, .int .i64 p2, .int .i64 d2, .int .i64 o2, .int .i64 g]), (C0, 50, #[.int .i64 u, .int .i64 n, .slice sa sl.length sc])] sa sc sl none 0 [] none 0 [] none 0 [] none 0 [] ((((((V5.setCell ⟨C1, 0, none⟩ (.int .i64 m2)).setCell ⟨C1, 1, none⟩ (.int .i64 y2)).setCell ⟨C1, 2, none⟩ (.int .i64 z2)).setCell ⟨C1, 3, none⟩ (.int .i64 p2)).setCell ⟨C1, 4, none⟩ (.int .i64 d2)).setCell ⟨C1, 5, none⟩ (.int .i64 o2)) := k11_4.p6 5 (.int .i64 o2)
    have k11_6 : Sw w C0 [] [(C7, 50, #[.int .i64 u6, .int .i64 n6, .slice a6 l6.length cp6]), (C6, 90, #[.int .i64 2, .int .i64 0, .int .i64 xf, .int .i64 (n - u), .int .i64 n]), (C5, 48, #[.int .i64 m, .int .i64 y, .int .i64 z, .int .i64 p, .int .i64 d, .int .i64 o, .int .i64 g]), (C4, 48, #[.int .i64 0, .int .i64 0, .int .i64 0, .int .i64 0, .int .i64 0, .int .i64 0, .int .i64 0]), (C3, 50, #[.int .i64 0, .int .i64 0, .slice none 0 0]), (C2, 33, #[.int .i64 xk, .int .i64 xf, .int .i64 xn, .slice xa xl.length xc]), (C1, 48, #[.int .i64 m2, .int .i64 y2, .int .i64 z2, .int .i64 p2, .int .i64 d2, .int .i64 o2, .int .i64 g2]), (C0, 50, #[.int .i64 u, .int .i64 n, .slice sa sl.length sc])] sa sc sl none 0 [] none 0 [] none 0 [] none 0 [] (((((((V5.setCell ⟨C1, 0, none⟩ (.int .i64 m2)).setCell ⟨C1, 1, none⟩ (.int .i64 y2)).setCell ⟨C1, 2, none⟩ (.int .i64 z2)).setCell ⟨C1, 3, none⟩ (.int .i64 p2)).setCell ⟨C1, 4, none⟩ (.int .i64 d2)).setCell ⟨C1, 5, none⟩ (.int .i64 o2)).setCell ⟨C1, 6, none⟩ (.int .i64 g2)) := k11_5.p6 6 (.int .i64 g2)
    have H9 := Lib.hid k11_6
    clear k11_0 k11_1 k11_2 k11_3 k11_4 k11_5 k11_6
    go_upto_region 13 with fail
    clear lr H8 c0 f0 c1 f1 c2 f2 c3 f3 c4 f4 c5 f5 c6 f6
    generalize (((((((V5.setCell ⟨C1, 0, none⟩ (.int .i64 m2)).setCell ⟨C1, 1, none⟩ (.int .i64 y2)).setCell ⟨C1, 2, none⟩ (.int .i64 z2)).setCell ⟨C1, 3, none⟩ (.int .i64 p2)).setCell ⟨C1, 4, none⟩ (.int .i64 d2)).setCell ⟨C1, 5, none⟩ (.int .i64 o2)).setCell ⟨C1, 6, none⟩ (.int .i64 g2)) = V6 at *
    have a3 : (V6).cell? ⟨C1, 3, none⟩ = some (.int .i64 p2) := H9.out.b6.c 3 rfl
    have b3 : (V6).cell? ⟨C5, 3, none⟩ = some (.int .i64 p) := H9.out.b2.c 3 rfl
    have d0 : (V6).cell? ⟨C6, 0, none⟩ = some (.int .i64 2) := H9.out.b1.c 0 rfl
    go_cut [1, 13] (fun s1 s13 wx => ∃ b : Bool, s1 = .agg #[.int .i64 m, .int .i64 y, .int .i64 z, .int .i64 p, .int .i64 d, .int .i64 o, .int .i64 g] ∧ s13 = .bool b ∧ Sw w C0 [] [(C7, 50, #[.int .i64 u6, .int .i64 n6, .slice a6 l6.length cp6]), (C6, 90, #[.int .i64 2, .int .i64 0, .int .i64 xf, .int .i64 (n - u), .int .i64 n]), (C5, 48, #[.int .i64 m, .int .i64 y, .int .i64 z, .int .i64 p, .int .i64 d, .int .i64 o, .int .i64 g]), (C4, 48, #[.int .i64 0, .int .i64 0, .int .i64 0, .int .i64 0, .int .i64 0, .int .i64 0, .int .i64 0]), (C3, 50, #[.int .i64 0, .int .i64 0, .slice none 0 0]), (C2, 33, #[.int .i64 xk, .int .i64 xf, .int .i64 xn, .slice xa xl.length xc]), (C1, 48, #[.int .i64 m2, .int .i64 y2, .int .i64 z2, .int .i64 p2, .int .i64 d2, .int .i64 o2, .int .i64 g2]), (C0, 50, #[.int .i64 u, .int .i64 n, .slice sa sl.length sc])] sa sc sl none 0 [] none 0 [] none 0 [] none 0 [] wx)
    case first =>
      cases h3 : ((p2 : Int) == 3)
      all_goals cases h4 : ((p : Int) == 3)
      all_goals go_wp2_with fail
      all_goals go_meet
      all_goals exact ⟨_, by first | rfl | simp_all, rfl, H9.out⟩
    case rest =>
      clear a3 b3 d0 H9
      obtain ⟨bb, rfl, rfl, hs⟩ := hcut
      generalize hwc : wc = V7 at *
      clear hwc
      have HT := Lib.hid hs
      clear hs
      go_upto_region 14 with fail
      refine wp_region_held_drew (S := fun w' => w'.cell? ⟨C0, 0, none⟩ = some (.int .i64 u) ∧ w'.cell? ⟨C0, 1, none⟩ = some (.int .i64 n) ∧ w'.cell? ⟨C0, 2, none⟩ = some (.slice sa sl.length sc) ∧ w'.cell? ⟨C1, 0, none⟩ = some (.int .i64 m2) ∧ w'.cell? ⟨C1, 1, none⟩ = some (.int .i64 y2) ∧ w'.cell? ⟨C1, 2, none⟩ = some (.int .i64 z2) ∧ w'.cell? ⟨C1, 3, none⟩ = some (.int .i64 p2) ∧ w'.cell? ⟨C1, 4, none⟩ = some (.int .i64 d2) ∧ w'.cell? ⟨C1, 5, none⟩ = some (.int .i64 o2) ∧ w'.cell? ⟨C1, 6, none⟩ = some (.int .i64 g2)) (by kernel_rfl) (by have hd := HT.out.keep (grownBy_drew (r := none)); exact ⟨(hd).b7.c 0 rfl, (hd).b7.c 1 rfl, (hd).b7.c 2 rfl, (hd).b6.c 0 rfl, (hd).b6.c 1 rfl, (hd).b6.c 2 rfl, (hd).b6.c 3 rfl, (hd).b6.c 4 rfl, (hd).b6.c 5 rfl, (hd).b6.c 6 rfl⟩) (fun hS => ?_)
      have HD0 := Lib.hid (HT.out.keep (grownBy_drew (r := none)))
      refine wpAnyH_take (i := 0) (v := ?_) rfl (by kernel_rfl) (by kernel_rfl) (by kernel_rfl) (fun _ _ _ h => h) (Or.inl ⟨by kernel_rfl, ?_⟩) hS ?_
      rotate_left
      · intro w' hSw
        obtain ⟨g0, g1, g2, g3, g4, g5, g6, g7, g8, g9⟩ := hSw
        first | (go_simp; done) | (go_simp; with_reducible rfl)
      simp only [List.getElem_toArray, List.getElem_cons_zero, Act.put, List.setIfInBounds_toArray, List.set_cons_zero, List.set_cons_succ]
      refine wpAnyH_take (i := 1) (v := ?_) rfl (by kernel_rfl) (by kernel_rfl) (by kernel_rfl) (fun _ _ _ h => h) (Or.inl ⟨by kernel_rfl, ?_⟩) hS ?_
      rotate_left
      · intro w' hSw
        obtain ⟨g0, g1, g2, g3, g4, g5, g6, g7, g8, g9⟩ := hSw
        first | (go_simp; done) | (go_simp; with_reducible rfl)
      simp only [List.getElem_toArray, List.getElem_cons_zero, List.getElem_cons_succ, Act.put, List.setIfInBounds_toArray, List.set_cons_zero, List.set_cons_succ]
      refine wpAnyH_take (i := 2) (v := ?_) rfl (by kernel_rfl) (by kernel_rfl) (by kernel_rfl) (fun _ _ _ h => h) (Or.inl ⟨by kernel_rfl, ?_⟩) hS ?_
      rotate_left
      · intro w' hSw
        obtain ⟨g0, g1, g2, g3, g4, g5, g6, g7, g8, g9⟩ := hSw
        first | (go_simp; done) | (go_simp; with_reducible rfl)
      simp only [List.getElem_toArray, List.getElem_cons_zero, List.getElem_cons_succ, Act.put, List.setIfInBounds_toArray, List.set_cons_zero, List.set_cons_succ]
      refine wpAnyH_ready (rs := [3]) (by kernel_rfl) (List.cons_ne_nil _ _) ?_
      refine AllReadyH.cons rfl (fun K hK => ?_) AllReadyH.nil
      generalize V7.drew = Wd at *
      have zz0 : (Wd).cell? ⟨C3, 0, none⟩ = some (.int .i64 0) := HD0.out.b4.c 0 rfl
      have zz1 : (Wd).cell? ⟨C3, 1, none⟩ = some (.int .i64 0) := HD0.out.b4.c 1 rfl
      have zz2 : (Wd).cell? ⟨C3, 2, none⟩ = some (.slice none 0 0) := HD0.out.b4.c 2 rfl
      have f0 := HD0.out.b4.f 0
      have f1 := HD0.out.b4.f 1
      have f2 := HD0.out.b4.f 2
      have lr := HD0.out.b4.lt
      go_simp
      have k12_0 : Sw w C0 [] [(C7, 50, #[.int .i64 u6, .int .i64 n6, .slice a6 l6.length cp6]), (C6, 90, #[.int .i64 2, .int .i64 0, .int .i64 xf, .int .i64 (n - u), .int .i64 n]), (C5, 48, #[.int .i64 m, .int .i64 y, .int .i64 z, .int .i64 p, .int .i64 d, .int .i64 o, .int .i64 g]), (C4, 48, #[.int .i64 0, .int .i64 0, .int .i64 0, .int .i64 0, .int .i64 0, .int .i64 0, .int .i64 0]), (C3, 50, #[.int .i64 u, .int .i64 0, .slice none 0 0]), (C2, 33, #[.int .i64 xk, .int .i64 xf, .int .i64 xn, .slice xa xl.length xc]), (C1, 48, #[.int .i64 m2, .int .i64 y2, .int .i64 z2, .int .i64 p2, .int .i64 d2, .int .i64 o2, .int .i64 g2]), (C0, 50, #[.int .i64 u, .int .i64 n, .slice sa sl.length sc])] sa sc sl none 0 [] none 0 [] none 0 [] none 0 [] (Wd.setCell ⟨C3, 0, none⟩ (.int .i64 u)) := HD0.out.p4 0 (.int .i64 u)
      have k12_1 : Sw w C0 [] [(C7, 50, #[.int .i64 u6, .int .i64 n6, .slice a6 l6.length cp6]), (C6, 90, #[.int .i64 2, .int .i64 0, .int .i64 xf, .int .i64 (n - u), .int .i64 n]), (C5, 48, #[.int .i64 m, .int .i64 y, .int .i64 z, .int .i64 p, .int .i64 d, .int .i64 o, .int .i64 g]), (C4, 48, #[.int .i64 0, .int .i64 0, .int .i64 0, .int .i64 0, .int .i64 0, .int .i64 0, .int .i64 0]), (C3, 50, #[.int .i64 u, .int .i64 n, .slice none 0 0]), (C2, 33, #[.int .i64 xk, .int .i64 xf, .int .i64 xn, .slice xa xl.length xc]), (C1, 48, #[.int .i64 m2, .int .i64 y2, .int .i64 z2, .int .i64 p2, .int .i64 d2, .int .i64 o2, .int .i64 g2]), (C0, 50, #[.int .i64 u, .int .i64 n, .slice sa sl.length sc])] sa sc sl none 0 [] none 0 [] none 0 [] none 0 [] ((Wd.setCell ⟨C3, 0, none⟩ (.int .i64 u)).setCell ⟨C3, 1, none⟩ (.int .i64 n)) := k12_0.p4 1 (.int .i64 n)
      have k12_2 : Sw w C0 [] [(C7, 50, #[.int .i64 u6, .int .i64 n6, .slice a6 l6.length cp6]), (C6, 90, #[.int .i64 2, .int .i64 0, .int .i64 xf, .int .i64 (n - u), .int .i64 n]), (C5, 48, #[.int .i64 m, .int .i64 y, .int .i64 z, .int .i64 p, .int .i64 d, .int .i64 o, .int .i64 g]), (C4, 48, #[.int .i64 0, .int .i64 0, .int .i64 0, .int .i64 0, .int .i64 0, .int .i64 0, .int .i64 0]), (C3, 50, #[.int .i64 u, .int .i64 n, .slice sa sl.length sc]), (C2, 33, #[.int .i64 xk, .int .i64 xf, .int .i64 xn, .slice xa xl.length xc]), (C1, 48, #[.int .i64 m2, .int .i64 y2, .int .i64 z2, .int .i64 p2, .int .i64 d2, .int .i64 o2, .int .i64 g2]), (C0, 50, #[.int .i64 u, .int .i64 n, .slice sa sl.length sc])] sa sc sl none 0 [] none 0 [] none 0 [] none 0 [] (((Wd.setCell ⟨C3, 0, none⟩ (.int .i64 u)).setCell ⟨C3, 1, none⟩ (.int .i64 n)).setCell ⟨C3, 2, none⟩ (.slice sa sl.length sc)) := k12_1.p4 2 (.slice sa sl.length sc)
      refine gen_wr (P := fun V => Sw w C0 [] [(C7, 50, #[.int .i64 u6, .int .i64 n6, .slice a6 l6.length cp6]), (C6, 90, #[.int .i64 2, .int .i64 0, .int .i64 xf, .int .i64 (n - u), .int .i64 n]), (C5, 48, #[.int .i64 m, .int .i64 y, .int .i64 z, .int .i64 p, .int .i64 d, .int .i64 o, .int .i64 g]), (C4, 48, #[.int .i64 0, .int .i64 0, .int .i64 0, .int .i64 0, .int .i64 0, .int .i64 0, .int .i64 0]), (C3, 50, #[.int .i64 u, .int .i64 n, .slice sa sl.length sc]), (C2, 33, #[.int .i64 xk, .int .i64 xf, .int .i64 xn, .slice xa xl.length xc]), (C1, 48, #[.int .i64 m2, .int .i64 y2, .int .i64 z2, .int .i64 p2, .int .i64 d2, .int .i64 o2, .int .i64 g2]), (C0, 50, #[.int .i64 u, .int .i64 n, .slice sa sl.length sc])] sa sc sl none 0 [] none 0 [] none 0 [] none 0 [] V) k12_2 (fun uy hz => ?_)
      clear lr zz0 f0 zz1 f1 zz2 f2 k12_0 k12_1 k12_2
      have HD1 := Lib.hid hz
      clear hz
      refine hK.out _ _ (⟨(HD1.out).b7.c 0 rfl, (HD1.out).b7.c 1 rfl, (HD1.out).b7.c 2 rfl, (HD1.out).b6.c 0 rfl, (HD1.out).b6.c 1 rfl, (HD1.out).b6.c 2 rfl, (HD1.out).b6.c 3 rfl, (HD1.out).b6.c 4 rfl, (HD1.out).b6.c 5 rfl, (HD1.out).b6.c 6 rfl⟩) (fun hS => ?_)
      clear hK
      try simp only [List.getElem_toArray, List.getElem_cons_zero, List.getElem_cons_succ, Act.put, List.setIfInBounds_toArray, List.set_cons_zero, List.set_cons_succ]
      refine wpAnyH_ready (rs := [4]) (by kernel_rfl) (List.cons_ne_nil _ _) ?_
      refine AllReadyH.cons rfl (fun K hK => ?_) AllReadyH.nil
      have zz0 : (uy).cell? ⟨C4, 0, none⟩ = some (.int .i64 0) := HD1.out.b3.c 0 rfl
      have zz1 : (uy).cell? ⟨C4, 1, none⟩ = some (.int .i64 0) := HD1.out.b3.c 1 rfl
      have zz2 : (uy).cell? ⟨C4, 2, none⟩ = some (.int .i64 0) := HD1.out.b3.c 2 rfl
      have zz3 : (uy).cell? ⟨C4, 3, none⟩ = some (.int .i64 0) := HD1.out.b3.c 3 rfl
      have zz4 : (uy).cell? ⟨C4, 4, none⟩ = some (.int .i64 0) := HD1.out.b3.c 4 rfl
      have zz5 : (uy).cell? ⟨C4, 5, none⟩ = some (.int .i64 0) := HD1.out.b3.c 5 rfl
      have zz6 : (uy).cell? ⟨C4, 6, none⟩ = some (.int .i64 0) := HD1.out.b3.c 6 rfl
      have f0 := HD1.out.b3.f 0
      have f1 := HD1.out.b3.f 1
      have f2 := HD1.out.b3.f 2
      have f3 := HD1.out.b3.f 3
      have f4 := HD1.out.b3.f 4
      have f5 := HD1.out.b3.f 5
      have f6 := HD1.out.b3.f 6
      have lr := HD1.out.b3.lt
      go_simp
      have k13_0 : Sw w C0 [] [(C7, 50, #[.int .i64 u6, .int .i64 n6, .slice a6 l6.length cp6]), (C6, 90, #[.int .i64 2, .int .i64 0, .int .i64 xf, .int .i64 (n - u), .int .i64 n]), (C5, 48, #[.int .i64 m, .int .i64 y, .int .i64 z, .int .i64 p, .int .i64 d, .int .i64 o, .int .i64 g]), (C4, 48, #[.int .i64 m2, .int .i64 0, .int .i64 0, .int .i64 0, .int .i64 0, .int .i64 0, .int .i64 0]), (C3, 50, #[.int .i64 u, .int .i64 n, .slice sa sl.length sc]), (C2, 33, #[.int .i64 xk, .int .i64 xf, .int .i64 xn, .slice xa xl.length xc]), (C1, 48, #[.int .i64 m2, .int .i64 y2, .int .i64 z2, .int .i64 p2, .int .i64 d2, .int .i64 o2, .int .i64 g2]), (C0, 50, #[.int .i64 u, .int .i64 n, .slice sa sl.length sc])] sa sc sl none 0 [] none 0 [] none 0 [] none 0 [] (uy.setCell ⟨C4, 0, none⟩ (.int .i64 m2)) := HD1.out.p3 0 (.int .i64 m2)
      have k13_1 : Sw w C0 [] [(C7, 50, #[.int .i64 u6, .int .i64 n6, .slice a6 l6.length cp6]), (C6, 90, #[.int .i64 2, .int .i64 0, .int .i64 xf, .int .i64 (n - u), .int .i64 n]), (C5, 48, #[.int .i64 m, .int .i64 y, .int .i64 z, .int .i64 p, .int .i64 d, .int .i64 o, .int .i64 g]), (C4, 48, #[.int .i64 m2, .int .i64 y2, .int .i64 0, .int .i64 0, .int .i64 0, .int .i64 0, .int .i64 0]), (C3, 50, #[.int .i64 u, .int .i64 n, .slice sa sl.length sc]), (C2, 33, #[.int .i64 xk, .int .i64 xf, .int .i64 xn, .slice xa xl.length xc]), (C1, 48, #[.int .i64 m2, .int .i64 y2, .int .i64 z2, .int .i64 p2, .int .i64 d2, .int .i64 o2, .int .i64 g2]), (C0, 50, #[.int .i64 u, .int .i64 n, .slice sa sl.length sc])] sa sc sl none 0 [] none 0 [] none 0 [] none 0 [] ((uy.setCell ⟨C4, 0, none⟩ (.int .i64 m2)).setCell ⟨C4, 1, none⟩ (.int .i64 y2)) := k13_0.p3 1 (.int .i64 y2)
      have k13_2 : Sw w C0 [] [(C7, 50, #[.int .i64 u6, .int .i64 n6, .slice a6 l6.length cp6]), (C6, 90, #[.int .i64 2, .int .i64 0, .int .i64 xf, .int .i64 (n - u), .int .i64 n]), (C5, 48, #[.int .i64 m, .int .i64 y, .int .i64 z, .int .i64 p, .int .i64 d, .int .i64 o, .int .i64 g]), (C4, 48, #[.int .i64 m2, .int .i64 y2, .int .i64 z2, .int .i64 0, .int .i64 0, .int .i64 0, .int .i64 0]), (C3, 50, #[.int .i64 u, .int .i64 n, .slice sa sl.length sc]), (C2, 33, #[.int .i64 xk, .int .i64 xf, .int .i64 xn, .slice xa xl.length xc]), (C1, 48, #[.int .i64 m2, .int .i64 y2, .int .i64 z2, .int .i64 p2, .int .i64 d2, .int .i64 o2, .int .i64 g2]), (C0, 50, #[.int .i64 u, .int .i64 n, .slice sa sl.length sc])] sa sc sl none 0 [] none 0 [] none 0 [] none 0 [] (((uy.setCell ⟨C4, 0, none⟩ (.int .i64 m2)).setCell ⟨C4, 1, none⟩ (.int .i64 y2)).setCell ⟨C4, 2, none⟩ (.int .i64 z2)) := k13_1.p3 2 (.int .i64 z2)
      have k13_3 : Sw w C0 [] [(C7, 50, #[.int .i64 u6, .int .i64 n6, .slice a6 l6.length cp6]), (C6, 90, #[.int .i64 2, .int .i64 0, .int .i64 xf, .int .i64 (n - u), .int .i64 n]), (C5, 48, #[.int .i64 m, .int .i64 y, .int .i64 z, .int .i64 p, .int .i64 d, .int .i64 o, .int .i64 g]), (C4, 48, #[.int .i64 m2, .int .i64 y2, .int .i64 z2, .int .i64 p2, .int .i64 0, .int .i64 0, .int .i64 0]), (C3, 50, #[.int .i64 u, .int .i64 n, .slice sa sl.length sc]), (C2, 33, #[.int .i64 xk, .int .i64 xf, .int .i64 xn, .slice xa xl.length xc]), (C1, 48, #[.int .i64 m2, .int .i64 y2, .int .i64 z2, .int .i64 p2, .int .i64 d2, .int .i64 o2, .int .i64 g2]), (C0, 50, #[.int .i64 u, .int .i64 n, .slice sa sl.length sc])] sa sc sl none 0 [] none 0 [] none 0 [] none 0 [] ((((uy.setCell ⟨C4, 0, none⟩ (.int .i64 m2)).setCell ⟨C4, 1, none⟩ (.int .i64 y2)).setCell ⟨C4, 2, none⟩ (.int .i64 z2)).setCell ⟨C4, 3, none⟩ (.int .i64 p2)) := k13_2.p3 3 (.int .i64 p2)
      have k13_4 : Sw w C0 [] [(C7, 50, #[.int .i64 u6, .int .i64 n6, .slice a6 l6.length cp6]), (C6, 90, #[.int .i64 2, .int .i64 0, .int .i64 xf, .int .i64 (n - u), .int .i64 n]), (C5, 48, #[.int .i64 m, .int .i64 y, .int .i64 z, .int .i64 p, .int .i64 d, .int .i64 o, .int .i64 g]), (C4, 48, #[.int .i64 m2, .int .i64 y2, .int .i64 z2, .int .i64 p2, .int .i64 d2, .int .i64 0, .int .i64 0]), (C3, 50, #[.int .i64 u, .int .i64 n, .slice sa sl.length sc]), (C2, 33, #[.int .i64 xk, .int .i64 xf, .int .i64 xn, .slice xa xl.length xc]), (C1, 48, #[.int .i64 m2, .int .i64 y2, .int .i64 z2, .int .i64 p2, .int .i64 d2, .int .i64 o2, .int .i64 g2]), (C0, 50, #[.int .i64 u, .int .i64 n, .slice sa sl.length sc])] sa sc sl none 0 [] none 0 [] none 0 [] none 0 [] (((((uy.setCell ⟨C4, 0, none⟩ (.int .i64 m2)).setCell ⟨C4, 1, none⟩ (.int .i64 y2)).setCell ⟨C4, 2, none⟩ (.int .i64 z2)).setCell ⟨C4, 3, none⟩ (.int .i64 p2)).setCell ⟨C4, 4, none⟩ (.int .i64 d2)) := k13_3.p3 4 (.int .i64 d2)
      have k13_5 : Sw w C0 [] [(C7, 50, #[.int .i64 u6, .int .i64 n6, .slice a6 l6.length cp6]), (C6, 90, #[.int .i64 2, .int .i64 0, .int .i64 xf, .int .i64 (n - u), .int .i64 n]), (C5, 48, #[.int .i64 m, .int .i64 y, .int .i64 z, .int .i64 p, .int .i64 d, .int .i64 o, .int .i64 g]), (C4, 48, #[.int .i64 m2, .int .i64 y2, .int .i64 z2, .int .i64 p2, .int .i64 d2, .int .i64 o2, .int .i64 0]), (C3, 50, #[.int .i64 u, .int .i64 n, .slice sa sl.length sc]), (C2, 33, #[.int .i64 xk, .int .i64 xf, .int .i64 xn, .slice xa xl.length xc]), (C1, 48, #[.int .i64 m2, .int .i64 y2, .int .i64 z2, .int .i64 p2, .int .i64 d2, .int .i64 o2, .int .i64 g2]), (C0, 50, #[.int .i64 u, .int .i64 n, .slice sa sl.length sc])] sa sc sl none 0 [] none 0 [] none 0 [] none 0 [] ((((((uy.setCell ⟨C4, 0, none⟩ (.int .i64 m2)).setCell ⟨C4, 1, none⟩ (.int .i64 y2)).setCell ⟨C4, 2, none⟩ (.int .i64 z2)).setCell ⟨C4, 3, none⟩ (.int .i64 p2)).setCell ⟨C4, 4, none⟩ (.int .i64 d2)).setCell ⟨C4, 5, none⟩ (.int .i64 o2)) := k13_4.p3 5 (.int .i64 o2)
      have k13_6 : Sw w C0 [] [(C7, 50, #[.int .i64 u6, .int .i64 n6, .slice a6 l6.length cp6]), (C6, 90, #[.int .i64 2, .int .i64 0, .int .i64 xf, .int .i64 (n - u), .int .i64 n]), (C5, 48, #[.int .i64 m, .int .i64 y, .int .i64 z, .int .i64 p, .int .i64 d, .int .i64 o, .int .i64 g]), (C4, 48, #[.int .i64 m2, .int .i64 y2, .int .i64 z2, .int .i64 p2, .int .i64 d2, .int .i64 o2, .int .i64 g2]), (C3, 50, #[.int .i64 u, .int .i64 n, .slice sa sl.length sc]), (C2, 33, #[.int .i64 xk, .int .i64 xf, .int .i64 xn, .slice xa xl.length xc]), (C1, 48, #[.int .i64 m2, .int .i64 y2, .int .i64 z2, .int .i64 p2, .int .i64 d2, .int .i64 o2, .int .i64 g2]), (C0, 50, #[.int .i64 u, .int .i64 n, .slice sa sl.length sc])] sa sc sl none 0 [] none 0 [] none 0 [] none 0 [] (((((((uy.setCell ⟨C4, 0, none⟩ (.int .i64 m2)).setCell ⟨C4, 1, none⟩ (.int .i64 y2)).setCell ⟨C4, 2, none⟩ (.int .i64 z2)).setCell ⟨C4, 3, none⟩ (.int .i64 p2)).setCell ⟨C4, 4, none⟩ (.int .i64 d2)).setCell ⟨C4, 5, none⟩ (.int .i64 o2)).setCell ⟨C4, 6, none⟩ (.int .i64 g2)) := k13_5.p3 6 (.int .i64 g2)
      refine gen_wr (P := fun V => Sw w C0 [] [(C7, 50, #[.int .i64 u6, .int .i64 n6, .slice a6 l6.length cp6]), (C6, 90, #[.int .i64 2, .int .i64 0, .int .i64 xf, .int .i64 (n - u), .int .i64 n]), (C5, 48, #[.int .i64 m, .int .i64 y, .int .i64 z, .int .i64 p, .int .i64 d, .int .i64 o, .int .i64 g]), (C4, 48, #[.int .i64 m2, .int .i64 y2, .int .i64 z2, .int .i64 p2, .int .i64 d2, .int .i64 o2, .int .i64 g2]), (C3, 50, #[.int .i64 u, .int .i64 n, .slice sa sl.length sc]), (C2, 33, #[.int .i64 xk, .int .i64 xf, .int .i64 xn, .slice xa xl.length xc]), (C1, 48, #[.int .i64 m2, .int .i64 y2, .int .i64 z2, .int .i64 p2, .int .i64 d2, .int .i64 o2, .int .i64 g2]), (C0, 50, #[.int .i64 u, .int .i64 n, .slice sa sl.length sc])] sa sc sl none 0 [] none 0 [] none 0 [] none 0 [] V) k13_6 (fun uz hz => ?_)
      clear lr zz0 f0 zz1 f1 zz2 f2 zz3 f3 zz4 f4 zz5 f5 zz6 f6 k13_0 k13_1 k13_2 k13_3 k13_4 k13_5 k13_6
      have HD2 := Lib.hid hz
      clear hz
      refine hK.out _ _ (⟨(HD2.out).b7.c 0 rfl, (HD2.out).b7.c 1 rfl, (HD2.out).b7.c 2 rfl, (HD2.out).b6.c 0 rfl, (HD2.out).b6.c 1 rfl, (HD2.out).b6.c 2 rfl, (HD2.out).b6.c 3 rfl, (HD2.out).b6.c 4 rfl, (HD2.out).b6.c 5 rfl, (HD2.out).b6.c 6 rfl⟩) (fun hS => ?_)
      clear hK
      try simp only [List.getElem_toArray, List.getElem_cons_zero, List.getElem_cons_succ, Act.put, List.setIfInBounds_toArray, List.set_cons_zero, List.set_cons_succ]
      refine wpAnyH_take (i := 5) (v := ?_) rfl (by kernel_rfl) (by kernel_rfl) (by kernel_rfl) (fun _ _ _ h => h) (Or.inl ⟨by kernel_rfl, ?_⟩) hS ?_
      rotate_left
      · intro w' hSw
        obtain ⟨g0, g1, g2, g3, g4, g5, g6, g7, g8, g9⟩ := hSw
        first | (go_simp; done) | (go_simp; with_reducible rfl)
      simp only [List.getElem_toArray, List.getElem_cons_zero, List.getElem_cons_succ, Act.put, List.setIfInBounds_toArray, List.set_cons_zero, List.set_cons_succ]
      refine wpAnyH_done (by kernel_rfl) ?_ _
      have r0 : (uz).cell? ⟨C3, 0, none⟩ = some (.int .i64 u) := HD2.out.b4.c 0 rfl
      have r1 : (uz).cell? ⟨C3, 1, none⟩ = some (.int .i64 n) := HD2.out.b4.c 1 rfl
      have r2 : (uz).cell? ⟨C3, 2, none⟩ = some (.slice sa sl.length sc) := HD2.out.b4.c 2 rfl
      have s0 : (uz).cell? ⟨C4, 0, none⟩ = some (.int .i64 m2) := HD2.out.b3.c 0 rfl
      have s1 : (uz).cell? ⟨C4, 1, none⟩ = some (.int .i64 y2) := HD2.out.b3.c 1 rfl
      have s2 : (uz).cell? ⟨C4, 2, none⟩ = some (.int .i64 z2) := HD2.out.b3.c 2 rfl
      have s3 : (uz).cell? ⟨C4, 3, none⟩ = some (.int .i64 p2) := HD2.out.b3.c 3 rfl
      have s4 : (uz).cell? ⟨C4, 4, none⟩ = some (.int .i64 d2) := HD2.out.b3.c 4 rfl
      have s5 : (uz).cell? ⟨C4, 5, none⟩ = some (.int .i64 o2) := HD2.out.b3.c 5 rfl
      have s6 : (uz).cell? ⟨C4, 6, none⟩ = some (.int .i64 g2) := HD2.out.b3.c 6 rfl
      go_wp2_with fail
      refine bodyPost_ret (v := .tuple #[.agg #[.int .i64 u, .int .i64 n, .slice sa sl.length sc], .agg #[.int .i64 m2, .int .i64 y2, .int .i64 z2, .int .i64 p2, .int .i64 d2, .int .i64 o2, .int .i64 g2], .bool bb]) (by simp [results, Try.results48, go_sem, r0, r1, r2, s0, s1, s2, s3, s4, s5, s6]) rfl ?_
      exact ⟨_, _, _, _, _, _, _, _, _, _, _, _, _, rfl, HD2.out.k.grown (World.grownBy.refl _ _) (Nat.le_of_eq HCC.out.symm), HD2.out.l.s, HD2.out.l.ss.lt, HBR.out⟩
  · have q0 : (V4).cell? ⟨C7, 0, none⟩ = some (.int .i64 u6) := HB.out.b0.c 0 rfl
    have q1 : (V4).cell? ⟨C7, 1, none⟩ = some (.int .i64 n6) := HB.out.b0.c 1 rfl
    have q2 : (V4).cell? ⟨C7, 2, none⟩ = some (.slice a6 l6.length cp6) := HB.out.b0.c 2 rfl
    have c0 : (V4).cell? ⟨C0, 0, none⟩ = some (.int .i64 u) := HB.out.b7.c 0 rfl
    have c1 : (V4).cell? ⟨C0, 1, none⟩ = some (.int .i64 n) := HB.out.b7.c 1 rfl
    have c2 : (V4).cell? ⟨C0, 2, none⟩ = some (.slice sa sl.length sc) := HB.out.b7.c 2 rfl
    have f0 := HB.out.b7.f 0
    have f1 := HB.out.b7.f 1
    have f2 := HB.out.b7.f 2
    have lr := HB.out.b7.lt
    have k14_0 : Sw w C0 [] [(C7, 50, #[.int .i64 u6, .int .i64 n6, .slice a6 l6.length cp6]), (C6, 90, #[.int .i64 2, .int .i64 0, .int .i64 xf, .int .i64 (n - u), .int .i64 n]), (C5, 48, #[.int .i64 m, .int .i64 y, .int .i64 z, .int .i64 p, .int .i64 d, .int .i64 o, .int .i64 g]), (C4, 48, #[.int .i64 0, .int .i64 0, .int .i64 0, .int .i64 0, .int .i64 0, .int .i64 0, .int .i64 0]), (C3, 50, #[.int .i64 0, .int .i64 0, .slice none 0 0]), (C2, 33, #[.int .i64 xk, .int .i64 xf, .int .i64 xn, .slice xa xl.length xc]), (C1, 48, #[.int .i64 m, .int .i64 y, .int .i64 z, .int .i64 p, .int .i64 d, .int .i64 o, .int .i64 g]), (C0, 50, #[.int .i64 u6, .int .i64 n, .slice sa sl.length sc])] a6 cp6 l6 none 0 [] none 0 [] none 0 [] none 0 [] (V4.setCell ⟨C0, 0, none⟩ (.int .i64 u6)) := HB.out.p7 0 (.int .i64 u6)
    have k14_1 : Sw w C0 [] [(C7, 50, #[.int .i64 u6, .int .i64 n6, .slice a6 l6.length cp6]), (C6, 90, #[.int .i64 2, .int .i64 0, .int .i64 xf, .int .i64 (n - u), .int .i64 n]), (C5, 48, #[.int .i64 m, .int .i64 y, .int .i64 z, .int .i64 p, .int .i64 d, .int .i64 o, .int .i64 g]), (C4, 48, #[.int .i64 0, .int .i64 0, .int .i64 0, .int .i64 0, .int .i64 0, .int .i64 0, .int .i64 0]), (C3, 50, #[.int .i64 0, .int .i64 0, .slice none 0 0]), (C2, 33, #[.int .i64 xk, .int .i64 xf, .int .i64 xn, .slice xa xl.length xc]), (C1, 48, #[.int .i64 m, .int .i64 y, .int .i64 z, .int .i64 p, .int .i64 d, .int .i64 o, .int .i64 g]), (C0, 50, #[.int .i64 u6, .int .i64 n6, .slice sa sl.length sc])] a6 cp6 l6 none 0 [] none 0 [] none 0 [] none 0 [] ((V4.setCell ⟨C0, 0, none⟩ (.int .i64 u6)).setCell ⟨C0, 1, none⟩ (.int .i64 n6)) := k14_0.p7 1 (.int .i64 n6)
    have k14_2 : Sw w C0 [] [(C7, 50, #[.int .i64 u6, .int .i64 n6, .slice a6 l6.length cp6]), (C6, 90, #[.int .i64 2, .int .i64 0, .int .i64 xf, .int .i64 (n - u), .int .i64 n]), (C5, 48, #[.int .i64 m, .int .i64 y, .int .i64 z, .int .i64 p, .int .i64 d, .int .i64 o, .int .i64 g]), (C4, 48, #[.int .i64 0, .int .i64 0, .int .i64 0, .int .i64 0, .int .i64 0, .int .i64 0, .int .i64 0]), (C3, 50, #[.int .i64 0, .int .i64 0, .slice none 0 0]), (C2, 33, #[.int .i64 xk, .int .i64 xf, .int .i64 xn, .slice xa xl.length xc]), (C1, 48, #[.int .i64 m, .int .i64 y, .int .i64 z, .int .i64 p, .int .i64 d, .int .i64 o, .int .i64 g]), (C0, 50, #[.int .i64 u6, .int .i64 n6, .slice a6 l6.length cp6])] a6 cp6 l6 none 0 [] none 0 [] none 0 [] none 0 [] (((V4.setCell ⟨C0, 0, none⟩ (.int .i64 u6)).setCell ⟨C0, 1, none⟩ (.int .i64 n6)).setCell ⟨C0, 2, none⟩ (.slice a6 l6.length cp6)) := k14_1.p7 2 (.slice a6 l6.length cp6)
    have HC := Lib.hid k14_2
    clear k14_0 k14_1 k14_2
    go_upto_region 12 with fail
    clear lr HA HB q0 c0 f0 q1 c1 f1 q2 c2 f2
    generalize (((V4.setCell ⟨C0, 0, none⟩ (.int .i64 u6)).setCell ⟨C0, 1, none⟩ (.int .i64 n6)).setCell ⟨C0, 2, none⟩ (.slice a6 l6.length cp6)) = V4b at *
    have c0 : (V4b).cell? ⟨C1, 0, none⟩ = some (.int .i64 m) := HC.out.b6.c 0 rfl
    have c1 : (V4b).cell? ⟨C1, 1, none⟩ = some (.int .i64 y) := HC.out.b6.c 1 rfl
    have c2 : (V4b).cell? ⟨C1, 2, none⟩ = some (.int .i64 z) := HC.out.b6.c 2 rfl
    have c3 : (V4b).cell? ⟨C1, 3, none⟩ = some (.int .i64 p) := HC.out.b6.c 3 rfl
    have c4 : (V4b).cell? ⟨C1, 4, none⟩ = some (.int .i64 d) := HC.out.b6.c 4 rfl
    have c5 : (V4b).cell? ⟨C1, 5, none⟩ = some (.int .i64 o) := HC.out.b6.c 5 rfl
    have c6 : (V4b).cell? ⟨C1, 6, none⟩ = some (.int .i64 g) := HC.out.b6.c 6 rfl
    have e0 : (V4b).cell? ⟨C6, 0, none⟩ = some (.int .i64 2) := HC.out.b1.c 0 rfl
    have e1 : (V4b).cell? ⟨C6, 1, none⟩ = some (.int .i64 0) := HC.out.b1.c 1 rfl
    have e2 : (V4b).cell? ⟨C6, 2, none⟩ = some (.int .i64 xf) := HC.out.b1.c 2 rfl
    have e3 : (V4b).cell? ⟨C6, 3, none⟩ = some (.int .i64 (n - u)) := HC.out.b1.c 3 rfl
    have e4 : (V4b).cell? ⟨C6, 4, none⟩ = some (.int .i64 n) := HC.out.b1.c 4 rfl
    go_wp2_with fail
    refine (rs_stepL m y z p d o g 2 0 xf (n - u) n _ hrn hev).mono ?_
    rintro e V5 ⟨rfl, hg⟩
    have H8 := Lib.hid (HC.out.keep hg)
    try clear hw2
    clear hev hrn hw
    try clear hA1 hA2
    try clear hB2
    try clear hun hn9 hxf0 hxf1 hu0 hsl hxl
    clear hg c0 c1 c2 c3 c4 c5 c6 e0 e1 e2 e3 e4
    obtain ⟨Q, hQ⟩ : ∃ Q, rnStep ⟨m, y, z, p, d, o, g⟩ ⟨2, 0, xf, (n - u), n⟩ = Q := ⟨_, rfl⟩
    rw [hQ]
    clear hQ
    obtain ⟨m2, y2, z2, p2, d2, o2, g2⟩ := Q
    dsimp only [rnV]
    have c0 : (V5).cell? ⟨C1, 0, none⟩ = some (.int .i64 m) := H8.out.b6.c 0 rfl
    have c1 : (V5).cell? ⟨C1, 1, none⟩ = some (.int .i64 y) := H8.out.b6.c 1 rfl
    have c2 : (V5).cell? ⟨C1, 2, none⟩ = some (.int .i64 z) := H8.out.b6.c 2 rfl
    have c3 : (V5).cell? ⟨C1, 3, none⟩ = some (.int .i64 p) := H8.out.b6.c 3 rfl
    have c4 : (V5).cell? ⟨C1, 4, none⟩ = some (.int .i64 d) := H8.out.b6.c 4 rfl
    have c5 : (V5).cell? ⟨C1, 5, none⟩ = some (.int .i64 o) := H8.out.b6.c 5 rfl
    have c6 : (V5).cell? ⟨C1, 6, none⟩ = some (.int .i64 g) := H8.out.b6.c 6 rfl
    have f0 := H8.out.b6.f 0
    have f1 := H8.out.b6.f 1
    have f2 := H8.out.b6.f 2
    have f3 := H8.out.b6.f 3
    have f4 := H8.out.b6.f 4
    have f5 := H8.out.b6.f 5
    have f6 := H8.out.b6.f 6
    have lr := H8.out.b6.lt
    have k15_0 : Sw w C0 [] [(C7, 50, #[.int .i64 u6, .int .i64 n6, .slice a6 l6.length cp6]), (C6, 90, #[.int .i64 2, .int .i64 0, .int .i64 xf, .int .i64 (n - u), .int .i64 n]), (C5, 48, #[.int .i64 m, .int .i64 y, .int .i64 z, .int .i64 p, .int .i64 d, .int .i64 o, .int .i64 g]), (C4, 48, #[.int .i64 0, .int .i64 0, .int .i64 0, .int .i64 0, .int .i64 0, .int .i64 0, .int .i64 0]), (C3, 50, #[.int .i64 0, .int .i64 0, .slice none 0 0]), (C2, 33, #[.int .i64 xk, .int .i64 xf, .int .i64 xn, .slice xa xl.length xc]), (C1, 48, #[.int .i64 m2, .int .i64 y, .int .i64 z, .int .i64 p, .int .i64 d, .int .i64 o, .int .i64 g]), (C0, 50, #[.int .i64 u6, .int .i64 n6, .slice a6 l6.length cp6])] a6 cp6 l6 none 0 [] none 0 [] none 0 [] none 0 [] (V5.setCell ⟨C1, 0, none⟩ (.int .i64 m2)) := H8.out.p6 0 (.int .i64 m2)
    have k15_1 : Sw w C0 [] [(C7, 50, #[.int .i64 u6, .int .i64 n6, .slice a6 l6.length cp6]), (C6, 90, #[.int .i64 2, .int .i64 0, .int .i64 xf, .int .i64 (n - u), .int .i64 n]), (C5, 48, #[.int .i64 m, .int .i64 y, .int .i64 z, .int .i64 p, .int .i64 d, .int .i64 o, .int .i64 g]), (C4, 48, #[.int .i64 0, .int .i64 0, .int .i64 0, .int .i64 0, .int .i64 0, .int .i64 0, .int .i64 0]), (C3, 50, #[.int .i64 0, .int .i64 0, .slice none 0 0]), (C2, 33, #[.int .i64 xk, .int .i64 xf, .int .i64 xn, .slice xa xl.length xc]), (C1, 48, #[.int .i64 m2, .int .i64 y2, .int .i64 z, .int .i64 p, .int .i64 d, .int .i64 o, .int .i64 g]), (C0, 50, #[.int .i64 u6, .int .i64 n6, .slice a6 l6.length cp6])] a6 cp6 l6 none 0 [] none 0 [] none 0 [] none 0 [] ((V5.setCell ⟨C1, 0, none⟩ (.int .i64 m2)).setCell ⟨C1, 1, none⟩ (.int .i64 y2)) := k15_0.p6 1 (.int .i64 y2)
    have k15_2 : Sw w C0 [] [(C7, 50, #[.int .i64 u6, .int .i64 n6, .slice a6 l6.length cp6]), (C6, 90, #[.int .i64 2, .int .i64 0, .int .i64 xf, .int .i64 (n - u), .int .i64 n]), (C5, 48, #[.int .i64 m, .int .i64 y, .int .i64 z, .int .i64 p, .int .i64 d, .int .i64 o, .int .i64 g]), (C4, 48, #[.int .i64 0, .int .i64 0, .int .i64 0, .int .i64 0, .int .i64 0, .int .i64 0, .int .i64 0]), (C3, 50, #[.int .i64 0, .int .i64 0, .slice none 0 0]), (C2, 33, #[.int .i64 xk, .int .i64 xf, .int .i64 xn, .slice xa xl.length xc]), (C1, 48, #[.int .i64 m2, .int .i64 y2, .int .i64 z2, .int .i64 p, .int .i64 d, .int .i64 o, .int .i64 g]), (C0, 50, #[.int .i64 u6, .int .i64 n6, .slice a6 l6.length cp6])] a6 cp6 l6 none 0 [] none 0 [] none 0 [] none 0 [] (((V5.setCell ⟨C1, 0, none⟩ (.int .i64 m2)).setCell ⟨C1, 1, none⟩ (.int .i64 y2)).setCell ⟨C1, 2, none⟩ (.int .i64 z2)) := k15_1.p6 2 (.int .i64 z2)
    have k15_3 : Sw w C0 [] [(C7, 50, #[.int .i64 u6, .int .i64 n6, .slice a6 l6.length cp6]), (C6, 90, #[.int .i64 2, .int .i64 0, .int .i64 xf, .int .i64 (n - u), .int .i64 n]), (C5, 48, #[.int .i64 m, .int .i64 y, .int .i64 z, .int .i64 p, .int .i64 d, .int .i64 o, .int .i64 g]), (C4, 48, #[.int .i64 0, .int .i64 0, .int .i64 0, .int .i64 0, .int .i64 0, .int .i64 0, .int .i64 0]), (C3, 50, #[.int .i64 0, .int .i64 0, .slice none 0 0]), (C2, 33, #[.int .i64 xk, .int .i64 xf, .int .i64 xn, .slice xa xl.length xc]), (C1, 48, #[.int .i64 m2, .int .i64 y2, .int .i64 z2, .int .i64 p2, .int .i64 d, .int .i64 o, .int .i64 g]), (C0, 50, #[.int .i64 u6, .int .i64 n6, .slice a6 l6.length cp6])] a6 cp6 l6 none 0 [] none 0 [] none 0 [] none 0 [] ((((V5.setCell ⟨C1, 0, none⟩ (.int .i64 m2)).setCell ⟨C1, 1, none⟩ (.int .i64 y2)).setCell ⟨C1, 2, none⟩ (.int .i64 z2)).setCell ⟨C1, 3, none⟩ (.int .i64 p2)) := k15_2.p6 3 (.int .i64 p2)
    have k15_4 : Sw w C0 [] [(C7, 50, #[.int .i64 u6, .int .i64 n6, .slice a6 l6.length cp6]), (C6, 90, #[.int .i64 2, .int .i64 0, .int .i64 xf, .int .i64 (n - u), .int .i64 n]), (C5, 48, #[.int .i64 m, .int .i64 y, .int .i64 z, .int .i64 p, .int .i64 d, .int .i64 o, .int .i64 g]), (C4, 48, #[.int .i64 0, .int .i64 0, .int .i64 0, .int .i64 0, .int .i64 0, .int .i64 0, .int .i64 0]), (C3, 50, #[.int .i64 0, .int .i64 0, .slice none 0 0]), (C2, 33, #[.int .i64 xk, .int .i64 xf, .int .i64 xn, .slice xa xl.length xc]), (C1, 48, #[.int .i64 m2, .int .i64 y2, .int .i64 z2, .int .i64 p2, .int .i64 d2, .int .i64 o, .int .i64 g]), (C0, 50, #[.int .i64 u6, .int .i64 n6, .slice a6 l6.length cp6])] a6 cp6 l6 none 0 [] none 0 [] none 0 [] none 0 [] (((((V5.setCell ⟨C1, 0, none⟩ (.int .i64 m2)).setCell ⟨C1, 1, none⟩ (.int .i64 y2)).setCell ⟨C1, 2, none⟩ (.int .i64 z2)).setCell ⟨C1, 3, none⟩ (.int .i64 p2)).setCell ⟨C1, 4, none⟩ (.int .i64 d2)) := k15_3.p6 4 (.int .i64 d2)
    have k15_5 : Sw w C0 [] [(C7, 50, #[.int .i64 u6, .int .i64 n6, .slice a6 l6.length cp6]), (C6, 90, #[.int .i64 2, .int .i64 0, .int .i64 xf, .int .i64 (n - u), .int .i64 n]), (C5, 48, #[.int .i64 m, .int .i64 y, .int .i64 z, .int .i64 p, .int .i64 d, .int .i64 o, .int .i64 g]), (C4, 48, #[.int .i64 0, .int .i64 0, .int .i64 0, .int .i64 0, .int .i64 0, .int .i64 0, .int .i64 0]), (C3, 50, #[.int .i64 0, .int .i64 0, .slice none 0 0]), (C2, 33, #[.int .i64 xk, .int .i64 xf, .int .i64 xn, .slice xa xl.length xc]), (C1, 48, #[.int .i64 m2, .int .i64 y2, .int .i64 z2, .int .i64 p2, .int .i64 d2, .int .i64 o2, .int .i64 g]), (C0, 50, #[.int .i64 u6, .int .i64 n6, .slice a6 l6.length cp6])] a6 cp6 l6 none 0 [] none 0 [] none 0 [] none 0 [] ((((((V5.setCell ⟨C1, 0, none⟩ (.int .i64 m2)).setCell ⟨C1, 1, none⟩ (.int .i64 y2)).setCell ⟨C1, 2, none⟩ (.int .i64 z2)).setCell ⟨C1, 3, none⟩ (.int .i64 p2)).setCell ⟨C1, 4, none⟩ (.int .i64 d2)).setCell ⟨C1, 5, none⟩ (.int .i64 o2)) := k15_4.p6 5 (.int .i64 o2)
    have k15_6 : Sw w C0 [] [(C7, 50, #[.int .i64 u6, .int .i64 n6, .slice a6 l6.length cp6]), (C6, 90, #[.int .i64 2, .int .i64 0, .int .i64 xf, .int .i64 (n - u), .int .i64 n]), (C5, 48, #[.int .i64 m, .int .i64 y, .int .i64 z, .int .i64 p, .int .i64 d, .int .i64 o, .int .i64 g]), (C4, 48, #[.int .i64 0, .int .i64 0, .int .i64 0, .int .i64 0, .int .i64 0, .int .i64 0, .int .i64 0]), (C3, 50, #[.int .i64 0, .int .i64 0, .slice none 0 0]), (C2, 33, #[.int .i64 xk, .int .i64 xf, .int .i64 xn, .slice xa xl.length xc]), (C1, 48, #[.int .i64 m2, .int .i64 y2, .int .i64 z2, .int .i64 p2, .int .i64 d2, .int .i64 o2, .int .i64 g2]), (C0, 50, #[.int .i64 u6, .int .i64 n6, .slice a6 l6.length cp6])] a6 cp6 l6 none 0 [] none 0 [] none 0 [] none 0 [] (((((((V5.setCell ⟨C1, 0, none⟩ (.int .i64 m2)).setCell ⟨C1, 1, none⟩ (.int .i64 y2)).setCell ⟨C1, 2, none⟩ (.int .i64 z2)).setCell ⟨C1, 3, none⟩ (.int .i64 p2)).setCell ⟨C1, 4, none⟩ (.int .i64 d2)).setCell ⟨C1, 5, none⟩ (.int .i64 o2)).setCell ⟨C1, 6, none⟩ (.int .i64 g2)) := k15_5.p6 6 (.int .i64 g2)
    have H9 := Lib.hid k15_6
    clear k15_0 k15_1 k15_2 k15_3 k15_4 k15_5 k15_6
    go_upto_region 13 with fail
    clear lr H8 c0 f0 c1 f1 c2 f2 c3 f3 c4 f4 c5 f5 c6 f6
    generalize (((((((V5.setCell ⟨C1, 0, none⟩ (.int .i64 m2)).setCell ⟨C1, 1, none⟩ (.int .i64 y2)).setCell ⟨C1, 2, none⟩ (.int .i64 z2)).setCell ⟨C1, 3, none⟩ (.int .i64 p2)).setCell ⟨C1, 4, none⟩ (.int .i64 d2)).setCell ⟨C1, 5, none⟩ (.int .i64 o2)).setCell ⟨C1, 6, none⟩ (.int .i64 g2)) = V6 at *
    have a3 : (V6).cell? ⟨C1, 3, none⟩ = some (.int .i64 p2) := H9.out.b6.c 3 rfl
    have b3 : (V6).cell? ⟨C5, 3, none⟩ = some (.int .i64 p) := H9.out.b2.c 3 rfl
    have d0 : (V6).cell? ⟨C6, 0, none⟩ = some (.int .i64 2) := H9.out.b1.c 0 rfl
    go_cut [1, 13] (fun s1 s13 wx => ∃ b : Bool, s1 = .agg #[.int .i64 m, .int .i64 y, .int .i64 z, .int .i64 p, .int .i64 d, .int .i64 o, .int .i64 g] ∧ s13 = .bool b ∧ Sw w C0 [] [(C7, 50, #[.int .i64 u6, .int .i64 n6, .slice a6 l6.length cp6]), (C6, 90, #[.int .i64 2, .int .i64 0, .int .i64 xf, .int .i64 (n - u), .int .i64 n]), (C5, 48, #[.int .i64 m, .int .i64 y, .int .i64 z, .int .i64 p, .int .i64 d, .int .i64 o, .int .i64 g]), (C4, 48, #[.int .i64 0, .int .i64 0, .int .i64 0, .int .i64 0, .int .i64 0, .int .i64 0, .int .i64 0]), (C3, 50, #[.int .i64 0, .int .i64 0, .slice none 0 0]), (C2, 33, #[.int .i64 xk, .int .i64 xf, .int .i64 xn, .slice xa xl.length xc]), (C1, 48, #[.int .i64 m2, .int .i64 y2, .int .i64 z2, .int .i64 p2, .int .i64 d2, .int .i64 o2, .int .i64 g2]), (C0, 50, #[.int .i64 u6, .int .i64 n6, .slice a6 l6.length cp6])] a6 cp6 l6 none 0 [] none 0 [] none 0 [] none 0 [] wx)
    case first =>
      cases h3 : ((p2 : Int) == 3)
      all_goals cases h4 : ((p : Int) == 3)
      all_goals go_wp2_with fail
      all_goals go_meet
      all_goals exact ⟨_, by first | rfl | simp_all, rfl, H9.out⟩
    case rest =>
      clear a3 b3 d0 H9
      obtain ⟨bb, rfl, rfl, hs⟩ := hcut
      generalize hwc : wc = V7 at *
      clear hwc
      have HT := Lib.hid hs
      clear hs
      go_upto_region 14 with fail
      refine wp_region_held_drew (S := fun w' => w'.cell? ⟨C0, 0, none⟩ = some (.int .i64 u6) ∧ w'.cell? ⟨C0, 1, none⟩ = some (.int .i64 n6) ∧ w'.cell? ⟨C0, 2, none⟩ = some (.slice a6 l6.length cp6) ∧ w'.cell? ⟨C1, 0, none⟩ = some (.int .i64 m2) ∧ w'.cell? ⟨C1, 1, none⟩ = some (.int .i64 y2) ∧ w'.cell? ⟨C1, 2, none⟩ = some (.int .i64 z2) ∧ w'.cell? ⟨C1, 3, none⟩ = some (.int .i64 p2) ∧ w'.cell? ⟨C1, 4, none⟩ = some (.int .i64 d2) ∧ w'.cell? ⟨C1, 5, none⟩ = some (.int .i64 o2) ∧ w'.cell? ⟨C1, 6, none⟩ = some (.int .i64 g2)) (by kernel_rfl) (by have hd := HT.out.keep (grownBy_drew (r := none)); exact ⟨(hd).b7.c 0 rfl, (hd).b7.c 1 rfl, (hd).b7.c 2 rfl, (hd).b6.c 0 rfl, (hd).b6.c 1 rfl, (hd).b6.c 2 rfl, (hd).b6.c 3 rfl, (hd).b6.c 4 rfl, (hd).b6.c 5 rfl, (hd).b6.c 6 rfl⟩) (fun hS => ?_)
      have HD0 := Lib.hid (HT.out.keep (grownBy_drew (r := none)))
      refine wpAnyH_take (i := 0) (v := ?_) rfl (by kernel_rfl) (by kernel_rfl) (by kernel_rfl) (fun _ _ _ h => h) (Or.inl ⟨by kernel_rfl, ?_⟩) hS ?_
      rotate_left
      · intro w' hSw
        obtain ⟨g0, g1, g2, g3, g4, g5, g6, g7, g8, g9⟩ := hSw
        first | (go_simp; done) | (go_simp; with_reducible rfl)
      simp only [List.getElem_toArray, List.getElem_cons_zero, Act.put, List.setIfInBounds_toArray, List.set_cons_zero, List.set_cons_succ]
      refine wpAnyH_take (i := 1) (v := ?_) rfl (by kernel_rfl) (by kernel_rfl) (by kernel_rfl) (fun _ _ _ h => h) (Or.inl ⟨by kernel_rfl, ?_⟩) hS ?_
      rotate_left
      · intro w' hSw
        obtain ⟨g0, g1, g2, g3, g4, g5, g6, g7, g8, g9⟩ := hSw
        first | (go_simp; done) | (go_simp; with_reducible rfl)
      simp only [List.getElem_toArray, List.getElem_cons_zero, List.getElem_cons_succ, Act.put, List.setIfInBounds_toArray, List.set_cons_zero, List.set_cons_succ]
      refine wpAnyH_take (i := 2) (v := ?_) rfl (by kernel_rfl) (by kernel_rfl) (by kernel_rfl) (fun _ _ _ h => h) (Or.inl ⟨by kernel_rfl, ?_⟩) hS ?_
      rotate_left
      · intro w' hSw
        obtain ⟨g0, g1, g2, g3, g4, g5, g6, g7, g8, g9⟩ := hSw
        first | (go_simp; done) | (go_simp; with_reducible rfl)
      simp only [List.getElem_toArray, List.getElem_cons_zero, List.getElem_cons_succ, Act.put, List.setIfInBounds_toArray, List.set_cons_zero, List.set_cons_succ]
      refine wpAnyH_ready (rs := [3]) (by kernel_rfl) (List.cons_ne_nil _ _) ?_
      refine AllReadyH.cons rfl (fun K hK => ?_) AllReadyH.nil
      generalize V7.drew = Wd at *
      have zz0 : (Wd).cell? ⟨C3, 0, none⟩ = some (.int .i64 0) := HD0.out.b4.c 0 rfl
      have zz1 : (Wd).cell? ⟨C3, 1, none⟩ = some (.int .i64 0) := HD0.out.b4.c 1 rfl
      have zz2 : (Wd).cell? ⟨C3, 2, none⟩ = some (.slice none 0 0) := HD0.out.b4.c 2 rfl
      have f0 := HD0.out.b4.f 0
      have f1 := HD0.out.b4.f 1
      have f2 := HD0.out.b4.f 2
      have lr := HD0.out.b4.lt
      go_simp
      have k16_0 : Sw w C0 [] [(C7, 50, #[.int .i64 u6, .int .i64 n6, .slice a6 l6.length cp6]), (C6, 90, #[.int .i64 2, .int .i64 0, .int .i64 xf, .int .i64 (n - u), .int .i64 n]), (C5, 48, #[.int .i64 m, .int .i64 y, .int .i64 z, .int .i64 p, .int .i64 d, .int .i64 o, .int .i64 g]), (C4, 48, #[.int .i64 0, .int .i64 0, .int .i64 0, .int .i64 0, .int .i64 0, .int .i64 0, .int .i64 0]), (C3, 50, #[.int .i64 u6, .int .i64 0, .slice none 0 0]), (C2, 33, #[.int .i64 xk, .int .i64 xf, .int .i64 xn, .slice xa xl.length xc]), (C1, 48, #[.int .i64 m2, .int .i64 y2, .int .i64 z2, .int .i64 p2, .int .i64 d2, .int .i64 o2, .int .i64 g2]), (C0, 50, #[.int .i64 u6, .int .i64 n6, .slice a6 l6.length cp6])] a6 cp6 l6 none 0 [] none 0 [] none 0 [] none 0 [] (Wd.setCell ⟨C3, 0, none⟩ (.int .i64 u6)) := HD0.out.p4 0 (.int .i64 u6)
      have k16_1 : Sw w C0 [] [(C7, 50, #[.int .i64 u6, .int .i64 n6, .slice a6 l6.length cp6]), (C6, 90, #[.int .i64 2, .int .i64 0, .int .i64 xf, .int .i64 (n - u), .int .i64 n]), (C5, 48, #[.int .i64 m, .int .i64 y, .int .i64 z, .int .i64 p, .int .i64 d, .int .i64 o, .int .i64 g]), (C4, 48, #[.int .i64 0, .int .i64 0, .int .i64 0, .int .i64 0, .int .i64 0, .int .i64 0, .int .i64 0]), (C3, 50, #[.int .i64 u6, .int .i64 n6, .slice none 0 0]), (C2, 33, #[.int .i64 xk, .int .i64 xf, .int .i64 xn, .slice xa xl.length xc]), (C1, 48, #[.int .i64 m2, .int .i64 y2, .int .i64 z2, .int .i64 p2, .int .i64 d2, .int .i64 o2, .int .i64 g2]), (C0, 50, #[.int .i64 u6, .int .i64 n6, .slice a6 l6.length cp6])] a6 cp6 l6 none 0 [] none 0 [] none 0 [] none 0 [] ((Wd.setCell ⟨C3, 0, none⟩ (.int .i64 u6)).setCell ⟨C3, 1, none⟩ (.int .i64 n6)) := k16_0.p4 1 (.int .i64 n6)
      have k16_2 : Sw w C0 [] [(C7, 50, #[.int .i64 u6, .int .i64 n6, .slice a6 l6.length cp6]), (C6, 90, #[.int .i64 2, .int .i64 0, .int .i64 xf, .int .i64 (n - u), .int .i64 n]), (C5, 48, #[.int .i64 m, .int .i64 y, .int .i64 z, .int .i64 p, .int .i64 d, .int .i64 o, .int .i64 g]), (C4, 48, #[.int .i64 0, .int .i64 0, .int .i64 0, .int .i64 0, .int .i64 0, .int .i64 0, .int .i64 0]), (C3, 50, #[.int .i64 u6, .int .i64 n6, .slice a6 l6.length cp6]), (C2, 33, #[.int .i64 xk, .int .i64 xf, .int .i64 xn, .slice xa xl.length xc]), (C1, 48, #[.int .i64 m2, .int .i64 y2, .int .i64 z2, .int .i64 p2, .int .i64 d2, .int .i64 o2, .int .i64 g2]), (C0, 50, #[.int .i64 u6, .int .i64 n6, .slice a6 l6.length cp6])] a6 cp6 l6 none 0 [] none 0 [] none 0 [] none 0 [] (((Wd.setCell ⟨C3, 0, none⟩ (.int .i64 u6)).setCell ⟨C3, 1, none⟩ (.int .i64 n6)).setCell ⟨C3, 2, none⟩ (.slice a6 l6.length cp6)) := k16_1.p4 2 (.slice a6 l6.length cp6)
      refine gen_wr (P := fun V => Sw w C0 [] [(C7, 50, #[.int .i64 u6, .int .i64 n6, .slice a6 l6.length cp6]), (C6, 90, #[.int .i64 2, .int .i64 0, .int .i64 xf, .int .i64 (n - u), .int .i64 n]), (C5, 48, #[.int .i64 m, .int .i64 y, .int .i64 z, .int .i64 p, .int .i64 d, .int .i64 o, .int .i64 g]), (C4, 48, #[.int .i64 0, .int .i64 0, .int .i64 0, .int .i64 0, .int .i64 0, .int .i64 0, .int .i64 0]), (C3, 50, #[.int .i64 u6, .int .i64 n6, .slice a6 l6.length cp6]), (C2, 33, #[.int .i64 xk, .int .i64 xf, .int .i64 xn, .slice xa xl.length xc]), (C1, 48, #[.int .i64 m2, .int .i64 y2, .int .i64 z2, .int .i64 p2, .int .i64 d2, .int .i64 o2, .int .i64 g2]), (C0, 50, #[.int .i64 u6, .int .i64 n6, .slice a6 l6.length cp6])] a6 cp6 l6 none 0 [] none 0 [] none 0 [] none 0 [] V) k16_2 (fun uy hz => ?_)
      clear lr zz0 f0 zz1 f1 zz2 f2 k16_0 k16_1 k16_2
      have HD1 := Lib.hid hz
      clear hz
      refine hK.out _ _ (⟨(HD1.out).b7.c 0 rfl, (HD1.out).b7.c 1 rfl, (HD1.out).b7.c 2 rfl, (HD1.out).b6.c 0 rfl, (HD1.out).b6.c 1 rfl, (HD1.out).b6.c 2 rfl, (HD1.out).b6.c 3 rfl, (HD1.out).b6.c 4 rfl, (HD1.out).b6.c 5 rfl, (HD1.out).b6.c 6 rfl⟩) (fun hS => ?_)
      clear hK
      try simp only [List.getElem_toArray, List.getElem_cons_zero, List.getElem_cons_succ, Act.put, List.setIfInBounds_toArray, List.set_cons_zero, List.set_cons_succ]
      refine wpAnyH_ready (rs := [4]) (by kernel_rfl) (List.cons_ne_nil _ _) ?_
      refine AllReadyH.cons rfl (fun K hK => ?_) AllReadyH.nil
      have zz0 : (uy).cell? ⟨C4, 0, none⟩ = some (.int .i64 0) := HD1.out.b3.c 0 rfl
      have zz1 : (uy).cell? ⟨C4, 1, none⟩ = some (.int .i64 0) := HD1.out.b3.c 1 rfl
      have zz2 : (uy).cell? ⟨C4, 2, none⟩ = some (.int .i64 0) := HD1.out.b3.c 2 rfl
      have zz3 : (uy).cell? ⟨C4, 3, none⟩ = some (.int .i64 0) := HD1.out.b3.c 3 rfl
      have zz4 : (uy).cell? ⟨C4, 4, none⟩ = some (.int .i64 0) := HD1.out.b3.c 4 rfl
      have zz5 : (uy).cell? ⟨C4, 5, none⟩ = some (.int .i64 0) := HD1.out.b3.c 5 rfl
      have zz6 : (uy).cell? ⟨C4, 6, none⟩ = some (.int .i64 0) := HD1.out.b3.c 6 rfl
      have f0 := HD1.out.b3.f 0
      have f1 := HD1.out.b3.f 1
      have f2 := HD1.out.b3.f 2
      have f3 := HD1.out.b3.f 3
      have f4 := HD1.out.b3.f 4
      have f5 := HD1.out.b3.f 5
      have f6 := HD1.out.b3.f 6
      have lr := HD1.out.b3.lt
      go_simp
      have k17_0 : Sw w C0 [] [(C7, 50, #[.int .i64 u6, .int .i64 n6, .slice a6 l6.length cp6]), (C6, 90, #[.int .i64 2, .int .i64 0, .int .i64 xf, .int .i64 (n - u), .int .i64 n]), (C5, 48, #[.int .i64 m, .int .i64 y, .int .i64 z, .int .i64 p, .int .i64 d, .int .i64 o, .int .i64 g]), (C4, 48, #[.int .i64 m2, .int .i64 0, .int .i64 0, .int .i64 0, .int .i64 0, .int .i64 0, .int .i64 0]), (C3, 50, #[.int .i64 u6, .int .i64 n6, .slice a6 l6.length cp6]), (C2, 33, #[.int .i64 xk, .int .i64 xf, .int .i64 xn, .slice xa xl.length xc]), (C1, 48, #[.int .i64 m2, .int .i64 y2, .int .i64 z2, .int .i64 p2, .int .i64 d2, .int .i64 o2, .int .i64 g2]), (C0, 50, #[.int .i64 u6, .int .i64 n6, .slice a6 l6.length cp6])] a6 cp6 l6 none 0 [] none 0 [] none 0 [] none 0 [] (uy.setCell ⟨C4, 0, none⟩ (.int .i64 m2)) := HD1.out.p3 0 (.int .i64 m2)
      have k17_1 : Sw w C0 [] [(C7, 50, #[.int .i64 u6, .int .i64 n6, .slice a6 l6.length cp6]), (C6, 90, #[.int .i64 2, .int .i64 0, .int .i64 xf, .int .i64 (n - u), .int .i64 n]), (C5, 48, #[.int .i64 m, .int .i64 y, .int .i64 z, .int .i64 p, .int .i64 d, .int .i64 o, .int .i64 g]), (C4, 48, #[.int .i64 m2, .int .i64 y2, .int .i64 0, .int .i64 0, .int .i64 0, .int .i64 0, .int .i64 0]), (C3, 50, #[.int .i64 u6, .int .i64 n6, .slice a6 l6.length cp6]), (C2, 33, #[.int .i64 xk, .int .i64 xf, .int .i64 xn, .slice xa xl.length xc]), (C1, 48, #[.int .i64 m2, .int .i64 y2, .int .i64 z2, .int .i64 p2, .int .i64 d2, .int .i64 o2, .int .i64 g2]), (C0, 50, #[.int .i64 u6, .int .i64 n6, .slice a6 l6.length cp6])] a6 cp6 l6 none 0 [] none 0 [] none 0 [] none 0 [] ((uy.setCell ⟨C4, 0, none⟩ (.int .i64 m2)).setCell ⟨C4, 1, none⟩ (.int .i64 y2)) := k17_0.p3 1 (.int .i64 y2)
      have k17_2 : Sw w C0 [] [(C7, 50, #[.int .i64 u6, .int .i64 n6, .slice a6 l6.length cp6]), (C6, 90, #[.int .i64 2, .int .i64 0, .int .i64 xf, .int .i64 (n - u), .int .i64 n]), (C5, 48, #[.int .i64 m, .int .i64 y, .int .i64 z, .int .i64 p, .int .i64 d, .int .i64 o, .int .i64 g]), (C4, 48, #[.int .i64 m2, .int .i64 y2, .int .i64 z2, .int .i64 0, .int .i64 0, .int .i64 0, .int .i64 0]), (C3, 50, #[.int .i64 u6, .int .i64 n6, .slice a6 l6.length cp6]), (C2, 33, #[.int .i64 xk, .int .i64 xf, .int .i64 xn, .slice xa xl.length xc]), (C1, 48, #[.int .i64 m2, .int .i64 y2, .int .i64 z2, .int .i64 p2, .int .i64 d2, .int .i64 o2, .int .i64 g2]), (C0, 50, #[.int .i64 u6, .int .i64 n6, .slice a6 l6.length cp6])] a6 cp6 l6 none 0 [] none 0 [] none 0 [] none 0 [] (((uy.setCell ⟨C4, 0, none⟩ (.int .i64 m2)).setCell ⟨C4, 1, none⟩ (.int .i64 y2)).setCell ⟨C4, 2, none⟩ (.int .i64 z2)) := k17_1.p3 2 (.int .i64 z2)
      have k17_3 : Sw w C0 [] [(C7, 50, #[.int .i64 u6, .int .i64 n6, .slice a6 l6.length cp6]), (C6, 90, #[.int .i64 2, .int .i64 0, .int .i64 xf, .int .i64 (n - u), .int .i64 n]), (C5, 48, #[.int .i64 m, .int .i64 y, .int .i64 z, .int .i64 p, .int .i64 d, .int .i64 o, .int .i64 g]), (C4, 48, #[.int .i64 m2, .int .i64 y2, .int .i64 z2, .int .i64 p2, .int .i64 0, .int .i64 0, .int .i64 0]), (C3, 50, #[.int .i64 u6, .int .i64 n6, .slice a6 l6.length cp6]), (C2, 33, #[.int .i64 xk, .int .i64 xf, .int .i64 xn, .slice xa xl.length xc]), (C1, 48, #[.int .i64 m2, .int .i64 y2, .int .i64 z2, .int .i64 p2, .int .i64 d2, .int .i64 o2, .int .i64 g2]), (C0, 50, #[.int .i64 u6, .int .i64 n6, .slice a6 l6.length cp6])] a6 cp6 l6 none 0 [] none 0 [] none 0 [] none 0 [] ((((uy.setCell ⟨C4, 0, none⟩ (.int .i64 m2)).setCell ⟨C4, 1, none⟩ (.int .i64 y2)).setCell ⟨C4, 2, none⟩ (.int .i64 z2)).setCell ⟨C4, 3, none⟩ (.int .i64 p2)) := k17_2.p3 3 (.int .i64 p2)
      have k17_4 : Sw w C0 [] [(C7, 50, #[.int .i64 u6, .int .i64 n6, .slice a6 l6.length cp6]), (C6, 90, #[.int .i64 2, .int .i64 0, .int .i64 xf, .int .i64 (n - u), .int .i64 n]), (C5, 48, #[.int .i64 m, .int .i64 y, .int .i64 z, .int .i64 p, .int .i64 d, .int .i64 o, .int .i64 g]), (C4, 48, #[.int .i64 m2, .int .i64 y2, .int .i64 z2, .int .i64 p2, .int .i64 d2, .int .i64 0, .int .i64 0]), (C3, 50, #[.int .i64 u6, .int .i64 n6, .slice a6 l6.length cp6]), (C2, 33, #[.int .i64 xk, .int .i64 xf, .int .i64 xn, .slice xa xl.length xc]), (C1, 48, #[.int .i64 m2, .int .i64 y2, .int .i64 z2, .int .i64 p2, .int .i64 d2, .int .i64 o2, .int .i64 g2]), (C0, 50, #[.int .i64 u6, .int .i64 n6, .slice a6 l6.length cp6])] a6 cp6 l6 none 0 [] none 0 [] none 0 [] none 0 [] (((((uy.setCell ⟨C4, 0, none⟩ (.int .i64 m2)).setCell ⟨C4, 1, none⟩ (.int .i64 y2)).setCell ⟨C4, 2, none⟩ (.int .i64 z2)).setCell ⟨C4, 3, none⟩ (.int .i64 p2)).setCell ⟨C4, 4, none⟩ (.int .i64 d2)) := k17_3.p3 4 (.int .i64 d2)
      have k17_5 : Sw w C0 [] [(C7, 50, #[.int .i64 u6, .int .i64 n6, .slice a6 l6.length cp6]), (C6, 90, #[.int .i64 2, .int .i64 0, .int .i64 xf, .int .i64 (n - u), .int .i64 n]), (C5, 48, #[.int .i64 m, .int .i64 y, .int .i64 z, .int .i64 p, .int .i64 d, .int .i64 o, .int .i64 g]), (C4, 48, #[.int .i64 m2, .int .i64 y2, .int .i64 z2, .int .i64 p2, .int .i64 d2, .int .i64 o2, .int .i64 0]), (C3, 50, #[.int .i64 u6, .int .i64 n6, .slice a6 l6.length cp6]), (C2, 33, #[.int .i64 xk, .int .i64 xf, .int .i64 xn, .slice xa xl.length xc]), (C1, 48, #[.int .i64 m2, .int .i64 y2, .int .i64 z2, .int .i64 p2, .int .i64 d2, .int .i64 o2, .int .i64 g2]), (C0, 50, #[.int .i64 u6, .int .i64 n6, .slice a6 l6.length cp6])] a6 cp6 l6 none 0 [] none 0 [] none 0 [] none 0 [] ((((((uy.setCell ⟨C4, 0, none⟩ (.int .i64 m2)).setCell ⟨C4, 1, none⟩ (.int .i64 y2)).setCell ⟨C4, 2, none⟩ (.int .i64 z2)).setCell ⟨C4, 3, none⟩ (.int .i64 p2)).setCell ⟨C4, 4, none⟩ (.int .i64 d2)).setCell ⟨C4, 5, none⟩ (.int .i64 o2)) := k17_4.p3 5 (.int .i64 o2)
      have k17_6 : Sw w C0 [] [(C7, 50, #[.int .i64 u6, .int .i64 n6, .slice a6 l6.length cp6]), (C6, 90, #[.int .i64 2, .int .i64 0, .int .i64 xf, .int .i64 (n - u), .int .i64 n]), (C5, 48, #[.int .i64 m, .int .i64 y, .int .i64 z, .int .i64 p, .int .i64 d, .int .i64 o, .int .i64 g]), (C4, 48, #[.int .i64 m2, .int .i64 y2, .int .i64 z2, .int .i64 p2, .int .i64 d2, .int .i64 o2, .int .i64 g2]), (C3, 50, #[.int .i64 u6, .int .i64 n6, .slice a6 l6.length cp6]), (C2, 33, #[.int .i64 xk, .int .i64 xf, .int .i64 xn, .slice xa xl.length xc]), (C1, 48, #[.int .i64 m2, .int .i64 y2, .int .i64 z2, .int .i64 p2, .int .i64 d2, .int .i64 o2, .int .i64 g2]), (C0, 50, #[.int .i64 u6, .int .i64 n6, .slice a6 l6.length cp6])] a6 cp6 l6 none 0 [] none 0 [] none 0 [] none 0 [] (((((((uy.setCell ⟨C4, 0, none⟩ (.int .i64 m2)).setCell ⟨C4, 1, none⟩ (.int .i64 y2)).setCell ⟨C4, 2, none⟩ (.int .i64 z2)).setCell ⟨C4, 3, none⟩ (.int .i64 p2)).setCell ⟨C4, 4, none⟩ (.int .i64 d2)).setCell ⟨C4, 5, none⟩ (.int .i64 o2)).setCell ⟨C4, 6, none⟩ (.int .i64 g2)) := k17_5.p3 6 (.int .i64 g2)
      refine gen_wr (P := fun V => Sw w C0 [] [(C7, 50, #[.int .i64 u6, .int .i64 n6, .slice a6 l6.length cp6]), (C6, 90, #[.int .i64 2, .int .i64 0, .int .i64 xf, .int .i64 (n - u), .int .i64 n]), (C5, 48, #[.int .i64 m, .int .i64 y, .int .i64 z, .int .i64 p, .int .i64 d, .int .i64 o, .int .i64 g]), (C4, 48, #[.int .i64 m2, .int .i64 y2, .int .i64 z2, .int .i64 p2, .int .i64 d2, .int .i64 o2, .int .i64 g2]), (C3, 50, #[.int .i64 u6, .int .i64 n6, .slice a6 l6.length cp6]), (C2, 33, #[.int .i64 xk, .int .i64 xf, .int .i64 xn, .slice xa xl.length xc]), (C1, 48, #[.int .i64 m2, .int .i64 y2, .int .i64 z2, .int .i64 p2, .int .i64 d2, .int .i64 o2, .int .i64 g2]), (C0, 50, #[.int .i64 u6, .int .i64 n6, .slice a6 l6.length cp6])] a6 cp6 l6 none 0 [] none 0 [] none 0 [] none 0 [] V) k17_6 (fun uz hz => ?_)
      clear lr zz0 f0 zz1 f1 zz2 f2 zz3 f3 zz4 f4 zz5 f5 zz6 f6 k17_0 k17_1 k17_2 k17_3 k17_4 k17_5 k17_6
      have HD2 := Lib.hid hz
      clear hz
      refine hK.out _ _ (⟨(HD2.out).b7.c 0 rfl, (HD2.out).b7.c 1 rfl, (HD2.out).b7.c 2 rfl, (HD2.out).b6.c 0 rfl, (HD2.out).b6.c 1 rfl, (HD2.out).b6.c 2 rfl, (HD2.out).b6.c 3 rfl, (HD2.out).b6.c 4 rfl, (HD2.out).b6.c 5 rfl, (HD2.out).b6.c 6 rfl⟩) (fun hS => ?_)
      clear hK
      try simp only [List.getElem_toArray, List.getElem_cons_zero, List.getElem_cons_succ, Act.put, List.setIfInBounds_toArray, List.set_cons_zero, List.set_cons_succ]
      refine wpAnyH_take (i := 5) (v := ?_) rfl (by kernel_rfl) (by kernel_rfl) (by kernel_rfl) (fun _ _ _ h => h) (Or.inl ⟨by kernel_rfl, ?_⟩) hS ?_
      rotate_left
      · intro w' hSw
        obtain ⟨g0, g1, g2, g3, g4, g5, g6, g7, g8, g9⟩ := hSw
        first | (go_simp; done) | (go_simp; with_reducible rfl)
      simp only [List.getElem_toArray, List.getElem_cons_zero, List.getElem_cons_succ, Act.put, List.setIfInBounds_toArray, List.set_cons_zero, List.set_cons_succ]
      refine wpAnyH_done (by kernel_rfl) ?_ _
      have r0 : (uz).cell? ⟨C3, 0, none⟩ = some (.int .i64 u6) := HD2.out.b4.c 0 rfl
      have r1 : (uz).cell? ⟨C3, 1, none⟩ = some (.int .i64 n6) := HD2.out.b4.c 1 rfl
      have r2 : (uz).cell? ⟨C3, 2, none⟩ = some (.slice a6 l6.length cp6) := HD2.out.b4.c 2 rfl
      have s0 : (uz).cell? ⟨C4, 0, none⟩ = some (.int .i64 m2) := HD2.out.b3.c 0 rfl
      have s1 : (uz).cell? ⟨C4, 1, none⟩ = some (.int .i64 y2) := HD2.out.b3.c 1 rfl
      have s2 : (uz).cell? ⟨C4, 2, none⟩ = some (.int .i64 z2) := HD2.out.b3.c 2 rfl
      have s3 : (uz).cell? ⟨C4, 3, none⟩ = some (.int .i64 p2) := HD2.out.b3.c 3 rfl
      have s4 : (uz).cell? ⟨C4, 4, none⟩ = some (.int .i64 d2) := HD2.out.b3.c 4 rfl
      have s5 : (uz).cell? ⟨C4, 5, none⟩ = some (.int .i64 o2) := HD2.out.b3.c 5 rfl
      have s6 : (uz).cell? ⟨C4, 6, none⟩ = some (.int .i64 g2) := HD2.out.b3.c 6 rfl
      go_wp2_with fail
      refine bodyPost_ret (v := .tuple #[.agg #[.int .i64 u6, .int .i64 n6, .slice a6 l6.length cp6], .agg #[.int .i64 m2, .int .i64 y2, .int .i64 z2, .int .i64 p2, .int .i64 d2, .int .i64 o2, .int .i64 g2], .bool bb]) (by simp [results, Try.results48, go_sem, r0, r1, r2, s0, s1, s2, s3, s4, s5, s6]) rfl ?_
      exact ⟨_, _, _, _, _, _, _, _, _, _, _, _, _, rfl, HD2.out.k.grown (World.grownBy.refl _ _) (Nat.le_of_eq HCC.out.symm), HD2.out.l.s, HD2.out.l.ss.lt, HB6.out⟩

set_option maxRecDepth 100000 in
set_option maxHeartbeats 8000000 in
theorem heard_E (u n : Int) (sa : Option Addr) (sc : Nat) (sl : List Rg) (m y z p d o g : Int) (xk xf xn : Int) (xa : Option Addr) (xc : Nat) (xl : List Rg) (w : World) (h : RowOk w sa sc sl) (hs : ∀ b, bkA sa = some b → b < w.heap.size) (hsl : sl.length ≤ 1000) (hx : RgAt w xa xl) (hxl : xl.length ≤ 1000) (hrn : rnOk ⟨m, y, z, p, d, o, g⟩ = true) (hu0 : 0 ≤ u) (hun : u ≤ n) (hn9 : n ≤ 1000000000) (hxf0 : 0 ≤ xf) (hxf1 : xf ≤ 1000000000) (hA1 : ¬ u < xf) (hB1 : xf = u) (hB2 : n = u) :
    Calls Try.prog 48 #[.agg #[.int .i64 u, .int .i64 n, .slice sa sl.length sc], .agg #[.int .i64 m, .int .i64 y, .int .i64 z, .int .i64 p, .int .i64 d, .int .i64 o, .int .i64 g], .agg #[.int .i64 xk, .int .i64 xf, .int .i64 xn, .slice xa xl.length xc]] w (HdPost w sa sc sl) := by
  have q1 : ((n : Int) == u) = true := by simpa using hB2
  have q2 : ((xf : Int) == u) = true := by simpa using hB1
  have q3 : (!((xf : Int) == u)) = false := by rw [q2]; rfl
  have q4 : ((xf : Int) != u) = false := by simp [hB1]
  clear hB1 hB2
  have HX := Lib.hid (And.intro hx hxl)
  have HB0 := Lib.hid hsl
  have _ := And.intro hu0 (And.intro hun (And.intro hn9 (And.intro hxf0 hxf1)))
  have _ := hrn
  have hw : IntKind.i64.wrap (n - u) = n - u := IntWalk.i64_in _ (by omega)
  obtain ⟨C0, hC0⟩ : ∃ C, C = w.heap.size := ⟨_, rfl⟩
  obtain ⟨C1, hC1⟩ : ∃ C, C = w.heap.size + 1 := ⟨_, rfl⟩
  obtain ⟨C2, hC2⟩ : ∃ C, C = w.heap.size + 1 + 1 := ⟨_, rfl⟩
  obtain ⟨C3, hC3⟩ : ∃ C, C = w.heap.size + 1 + 1 + 1 := ⟨_, rfl⟩
  obtain ⟨C4, hC4⟩ : ∃ C, C = w.heap.size + 1 + 1 + 1 + 1 := ⟨_, rfl⟩
  have k := ((((((Sw.start (LwAt.board w h hs) (Nat.le_refl _)).new 50 #[.int .i64 u, .int .i64 n, .slice sa sl.length sc]).new 48 #[.int .i64 m, .int .i64 y, .int .i64 z, .int .i64 p, .int .i64 d, .int .i64 o, .int .i64 g]).new 33 #[.int .i64 xk, .int .i64 xf, .int .i64 xn, .slice xa xl.length xc]).new 50 #[.int .i64 0, .int .i64 0, .slice none 0 0]).new 48 #[.int .i64 0, .int .i64 0, .int .i64 0, .int .i64 0, .int .i64 0, .int .i64 0, .int .i64 0])
  simp only [World.size_alloc] at k
  rw [← hC4, ← hC3, ← hC2, ← hC1, ← hC0] at k
  have H0 := Lib.hid k
  clear k h hs
  go_enter Try.func48, Try.ntmps48
  go_upto_region 1 with fail
  try simp only [World.size_alloc]
  try rw [← hC4]
  try rw [← hC3]
  try rw [← hC2]
  try rw [← hC1]
  try rw [← hC0]
  have HCC := Lib.hid hC0
  clear hC0 hC1 hC2 hC3 hC4
  generalize (((((w.alloc (.cells #[.int .i64 u, .int .i64 n, .slice sa sl.length sc] 50)).alloc (.cells #[.int .i64 m, .int .i64 y, .int .i64 z, .int .i64 p, .int .i64 d, .int .i64 o, .int .i64 g] 48)).alloc (.cells #[.int .i64 xk, .int .i64 xf, .int .i64 xn, .slice xa xl.length xc] 33)).alloc (.cells #[.int .i64 0, .int .i64 0, .slice none 0 0] 50)).alloc (.cells #[.int .i64 0, .int .i64 0, .int .i64 0, .int .i64 0, .int .i64 0, .int .i64 0, .int .i64 0] 48)) = W0 at *
  have c0 : (W0).cell? ⟨C1, 0, none⟩ = some (.int .i64 m) := H0.out.b3.c 0 rfl
  have c1 : (W0).cell? ⟨C1, 1, none⟩ = some (.int .i64 y) := H0.out.b3.c 1 rfl
  have c2 : (W0).cell? ⟨C1, 2, none⟩ = some (.int .i64 z) := H0.out.b3.c 2 rfl
  have c3 : (W0).cell? ⟨C1, 3, none⟩ = some (.int .i64 p) := H0.out.b3.c 3 rfl
  have c4 : (W0).cell? ⟨C1, 4, none⟩ = some (.int .i64 d) := H0.out.b3.c 4 rfl
  have c5 : (W0).cell? ⟨C1, 5, none⟩ = some (.int .i64 o) := H0.out.b3.c 5 rfl
  have c6 : (W0).cell? ⟨C1, 6, none⟩ = some (.int .i64 g) := H0.out.b3.c 6 rfl
  have H1 := Lib.hid (H0.out.new 48 #[.int .i64 m, .int .i64 y, .int .i64 z, .int .i64 p, .int .i64 d, .int .i64 o, .int .i64 g])
  go_upto_region 2 with fail
  clear H0 c0 c1 c2 c3 c4 c5 c6
  generalize W0.alloc (.cells #[.int .i64 m, .int .i64 y, .int .i64 z, .int .i64 p, .int .i64 d, .int .i64 o, .int .i64 g] 48) = W1 at *
  generalize W0.heap.size = C5 at *
  have x1 : (W1).cell? ⟨C2, 1, none⟩ = some (.int .i64 xf) := H1.out.b3.c 1 rfl
  have c0 : (W1).cell? ⟨C0, 0, none⟩ = some (.int .i64 u) := H1.out.b5.c 0 rfl
  have c1 : (W1).cell? ⟨C0, 1, none⟩ = some (.int .i64 n) := H1.out.b5.c 1 rfl
  have H2 := Lib.hid (H1.out.new 90 #[.int .i64 2, .int .i64 0, .int .i64 xf, .int .i64 (n - u), .int .i64 n])
  go_upto_region 3 with fail
  clear H1 x1 c0 c1
  generalize W1.alloc (.cells #[.int .i64 2, .int .i64 0, .int .i64 xf, .int .i64 (n - u), .int .i64 n] 90) = W2 at *
  generalize W1.heap.size = C6 at *
  have x1 : (W2).cell? ⟨C2, 1, none⟩ = some (.int .i64 xf) := H2.out.b4.c 1 rfl
  have c0 : (W2).cell? ⟨C0, 0, none⟩ = some (.int .i64 u) := H2.out.b6.c 0 rfl
  have c1 : (W2).cell? ⟨C0, 1, none⟩ = some (.int .i64 n) := H2.out.b6.c 1 rfl
  have HBR := Lib.hid (show BrN w sa sc sl sa sc sl from ⟨HB0.out, .inl ⟨rfl, rfl, rfl⟩⟩)
  go_upto_region 8 with fail
  clear x1 c0 c1
  refine wp_region_held_drew (S := fun w' => w'.cell? ⟨C0, 0, none⟩ = some (.int .i64 u) ∧ w'.cell? ⟨C0, 1, none⟩ = some (.int .i64 n) ∧ w'.cell? ⟨C0, 2, none⟩ = some (.slice sa sl.length sc) ∧ w'.cell? ⟨C1, 0, none⟩ = some (.int .i64 m) ∧ w'.cell? ⟨C1, 1, none⟩ = some (.int .i64 y) ∧ w'.cell? ⟨C1, 2, none⟩ = some (.int .i64 z) ∧ w'.cell? ⟨C1, 3, none⟩ = some (.int .i64 p) ∧ w'.cell? ⟨C1, 4, none⟩ = some (.int .i64 d) ∧ w'.cell? ⟨C1, 5, none⟩ = some (.int .i64 o) ∧ w'.cell? ⟨C1, 6, none⟩ = some (.int .i64 g)) (by kernel_rfl) (by have hd := H2.out.keep (grownBy_drew (r := none)); exact ⟨(hd).b6.c 0 rfl, (hd).b6.c 1 rfl, (hd).b6.c 2 rfl, (hd).b5.c 0 rfl, (hd).b5.c 1 rfl, (hd).b5.c 2 rfl, (hd).b5.c 3 rfl, (hd).b5.c 4 rfl, (hd).b5.c 5 rfl, (hd).b5.c 6 rfl⟩) (fun hS => ?_)
  have HD0 := Lib.hid (H2.out.keep (grownBy_drew (r := none)))
  refine wpAnyH_take (i := 0) (v := ?_) rfl (by kernel_rfl) (by kernel_rfl) (by kernel_rfl) (fun _ _ _ h => h) (Or.inl ⟨by kernel_rfl, ?_⟩) hS ?_
  rotate_left
  · intro w' hSw
    obtain ⟨g0, g1, g2, g3, g4, g5, g6, g7, g8, g9⟩ := hSw
    first | (go_simp; done) | (go_simp; with_reducible rfl)
  simp only [List.getElem_toArray, List.getElem_cons_zero, Act.put, List.setIfInBounds_toArray, List.set_cons_zero, List.set_cons_succ]
  refine wpAnyH_take (i := 1) (v := ?_) rfl (by kernel_rfl) (by kernel_rfl) (by kernel_rfl) (fun _ _ _ h => h) (Or.inl ⟨by kernel_rfl, ?_⟩) hS ?_
  rotate_left
  · intro w' hSw
    obtain ⟨g0, g1, g2, g3, g4, g5, g6, g7, g8, g9⟩ := hSw
    first | (go_simp; done) | (go_simp; with_reducible rfl)
  simp only [List.getElem_toArray, List.getElem_cons_zero, List.getElem_cons_succ, Act.put, List.setIfInBounds_toArray, List.set_cons_zero, List.set_cons_succ]
  refine wpAnyH_ready (rs := [2]) (by kernel_rfl) (List.cons_ne_nil _ _) ?_
  refine AllReadyH.cons rfl (fun K hK => ?_) AllReadyH.nil
  generalize W2.drew = Wd at *
  have zz0 : (Wd).cell? ⟨C3, 0, none⟩ = some (.int .i64 0) := HD0.out.b3.c 0 rfl
  have zz1 : (Wd).cell? ⟨C3, 1, none⟩ = some (.int .i64 0) := HD0.out.b3.c 1 rfl
  have zz2 : (Wd).cell? ⟨C3, 2, none⟩ = some (.slice none 0 0) := HD0.out.b3.c 2 rfl
  have f0 := HD0.out.b3.f 0
  have f1 := HD0.out.b3.f 1
  have f2 := HD0.out.b3.f 2
  have lr := HD0.out.b3.lt
  go_simp
  have k18_0 : Sw w C0 [] [(C6, 90, #[.int .i64 2, .int .i64 0, .int .i64 xf, .int .i64 (n - u), .int .i64 n]), (C5, 48, #[.int .i64 m, .int .i64 y, .int .i64 z, .int .i64 p, .int .i64 d, .int .i64 o, .int .i64 g]), (C4, 48, #[.int .i64 0, .int .i64 0, .int .i64 0, .int .i64 0, .int .i64 0, .int .i64 0, .int .i64 0]), (C3, 50, #[.int .i64 u, .int .i64 0, .slice none 0 0]), (C2, 33, #[.int .i64 xk, .int .i64 xf, .int .i64 xn, .slice xa xl.length xc]), (C1, 48, #[.int .i64 m, .int .i64 y, .int .i64 z, .int .i64 p, .int .i64 d, .int .i64 o, .int .i64 g]), (C0, 50, #[.int .i64 u, .int .i64 n, .slice sa sl.length sc])] sa sc sl none 0 [] none 0 [] none 0 [] none 0 [] (Wd.setCell ⟨C3, 0, none⟩ (.int .i64 u)) := HD0.out.p3 0 (.int .i64 u)
  have k18_1 : Sw w C0 [] [(C6, 90, #[.int .i64 2, .int .i64 0, .int .i64 xf, .int .i64 (n - u), .int .i64 n]), (C5, 48, #[.int .i64 m, .int .i64 y, .int .i64 z, .int .i64 p, .int .i64 d, .int .i64 o, .int .i64 g]), (C4, 48, #[.int .i64 0, .int .i64 0, .int .i64 0, .int .i64 0, .int .i64 0, .int .i64 0, .int .i64 0]), (C3, 50, #[.int .i64 u, .int .i64 n, .slice none 0 0]), (C2, 33, #[.int .i64 xk, .int .i64 xf, .int .i64 xn, .slice xa xl.length xc]), (C1, 48, #[.int .i64 m, .int .i64 y, .int .i64 z, .int .i64 p, .int .i64 d, .int .i64 o, .int .i64 g]), (C0, 50, #[.int .i64 u, .int .i64 n, .slice sa sl.length sc])] sa sc sl none 0 [] none 0 [] none 0 [] none 0 [] ((Wd.setCell ⟨C3, 0, none⟩ (.int .i64 u)).setCell ⟨C3, 1, none⟩ (.int .i64 n)) := k18_0.p3 1 (.int .i64 n)
  have k18_2 : Sw w C0 [] [(C6, 90, #[.int .i64 2, .int .i64 0, .int .i64 xf, .int .i64 (n - u), .int .i64 n]), (C5, 48, #[.int .i64 m, .int .i64 y, .int .i64 z, .int .i64 p, .int .i64 d, .int .i64 o, .int .i64 g]), (C4, 48, #[.int .i64 0, .int .i64 0, .int .i64 0, .int .i64 0, .int .i64 0, .int .i64 0, .int .i64 0]), (C3, 50, #[.int .i64 u, .int .i64 n, .slice sa sl.length sc]), (C2, 33, #[.int .i64 xk, .int .i64 xf, .int .i64 xn, .slice xa xl.length xc]), (C1, 48, #[.int .i64 m, .int .i64 y, .int .i64 z, .int .i64 p, .int .i64 d, .int .i64 o, .int .i64 g]), (C0, 50, #[.int .i64 u, .int .i64 n, .slice sa sl.length sc])] sa sc sl none 0 [] none 0 [] none 0 [] none 0 [] (((Wd.setCell ⟨C3, 0, none⟩ (.int .i64 u)).setCell ⟨C3, 1, none⟩ (.int .i64 n)).setCell ⟨C3, 2, none⟩ (.slice sa sl.length sc)) := k18_1.p3 2 (.slice sa sl.length sc)
  refine gen_wr (P := fun V => Sw w C0 [] [(C6, 90, #[.int .i64 2, .int .i64 0, .int .i64 xf, .int .i64 (n - u), .int .i64 n]), (C5, 48, #[.int .i64 m, .int .i64 y, .int .i64 z, .int .i64 p, .int .i64 d, .int .i64 o, .int .i64 g]), (C4, 48, #[.int .i64 0, .int .i64 0, .int .i64 0, .int .i64 0, .int .i64 0, .int .i64 0, .int .i64 0]), (C3, 50, #[.int .i64 u, .int .i64 n, .slice sa sl.length sc]), (C2, 33, #[.int .i64 xk, .int .i64 xf, .int .i64 xn, .slice xa xl.length xc]), (C1, 48, #[.int .i64 m, .int .i64 y, .int .i64 z, .int .i64 p, .int .i64 d, .int .i64 o, .int .i64 g]), (C0, 50, #[.int .i64 u, .int .i64 n, .slice sa sl.length sc])] sa sc sl none 0 [] none 0 [] none 0 [] none 0 [] V) k18_2 (fun uy hz => ?_)
  clear lr zz0 f0 zz1 f1 zz2 f2 k18_0 k18_1 k18_2
  have HD1 := Lib.hid hz
  clear hz
  refine hK.out _ _ (⟨(HD1.out).b6.c 0 rfl, (HD1.out).b6.c 1 rfl, (HD1.out).b6.c 2 rfl, (HD1.out).b5.c 0 rfl, (HD1.out).b5.c 1 rfl, (HD1.out).b5.c 2 rfl, (HD1.out).b5.c 3 rfl, (HD1.out).b5.c 4 rfl, (HD1.out).b5.c 5 rfl, (HD1.out).b5.c 6 rfl⟩) (fun hS => ?_)
  clear hK
  try simp only [List.getElem_toArray, List.getElem_cons_zero, List.getElem_cons_succ, Act.put, List.setIfInBounds_toArray, List.set_cons_zero, List.set_cons_succ]
  refine wpAnyH_ready (rs := [3]) (by kernel_rfl) (List.cons_ne_nil _ _) ?_
  refine AllReadyH.cons rfl (fun K hK => ?_) AllReadyH.nil
  have zz0 : (uy).cell? ⟨C4, 0, none⟩ = some (.int .i64 0) := HD1.out.b2.c 0 rfl
  have zz1 : (uy).cell? ⟨C4, 1, none⟩ = some (.int .i64 0) := HD1.out.b2.c 1 rfl
  have zz2 : (uy).cell? ⟨C4, 2, none⟩ = some (.int .i64 0) := HD1.out.b2.c 2 rfl
  have zz3 : (uy).cell? ⟨C4, 3, none⟩ = some (.int .i64 0) := HD1.out.b2.c 3 rfl
  have zz4 : (uy).cell? ⟨C4, 4, none⟩ = some (.int .i64 0) := HD1.out.b2.c 4 rfl
  have zz5 : (uy).cell? ⟨C4, 5, none⟩ = some (.int .i64 0) := HD1.out.b2.c 5 rfl
  have zz6 : (uy).cell? ⟨C4, 6, none⟩ = some (.int .i64 0) := HD1.out.b2.c 6 rfl
  have f0 := HD1.out.b2.f 0
  have f1 := HD1.out.b2.f 1
  have f2 := HD1.out.b2.f 2
  have f3 := HD1.out.b2.f 3
  have f4 := HD1.out.b2.f 4
  have f5 := HD1.out.b2.f 5
  have f6 := HD1.out.b2.f 6
  have lr := HD1.out.b2.lt
  go_simp
  have k19_0 : Sw w C0 [] [(C6, 90, #[.int .i64 2, .int .i64 0, .int .i64 xf, .int .i64 (n - u), .int .i64 n]), (C5, 48, #[.int .i64 m, .int .i64 y, .int .i64 z, .int .i64 p, .int .i64 d, .int .i64 o, .int .i64 g]), (C4, 48, #[.int .i64 m, .int .i64 0, .int .i64 0, .int .i64 0, .int .i64 0, .int .i64 0, .int .i64 0]), (C3, 50, #[.int .i64 u, .int .i64 n, .slice sa sl.length sc]), (C2, 33, #[.int .i64 xk, .int .i64 xf, .int .i64 xn, .slice xa xl.length xc]), (C1, 48, #[.int .i64 m, .int .i64 y, .int .i64 z, .int .i64 p, .int .i64 d, .int .i64 o, .int .i64 g]), (C0, 50, #[.int .i64 u, .int .i64 n, .slice sa sl.length sc])] sa sc sl none 0 [] none 0 [] none 0 [] none 0 [] (uy.setCell ⟨C4, 0, none⟩ (.int .i64 m)) := HD1.out.p2 0 (.int .i64 m)
  have k19_1 : Sw w C0 [] [(C6, 90, #[.int .i64 2, .int .i64 0, .int .i64 xf, .int .i64 (n - u), .int .i64 n]), (C5, 48, #[.int .i64 m, .int .i64 y, .int .i64 z, .int .i64 p, .int .i64 d, .int .i64 o, .int .i64 g]), (C4, 48, #[.int .i64 m, .int .i64 y, .int .i64 0, .int .i64 0, .int .i64 0, .int .i64 0, .int .i64 0]), (C3, 50, #[.int .i64 u, .int .i64 n, .slice sa sl.length sc]), (C2, 33, #[.int .i64 xk, .int .i64 xf, .int .i64 xn, .slice xa xl.length xc]), (C1, 48, #[.int .i64 m, .int .i64 y, .int .i64 z, .int .i64 p, .int .i64 d, .int .i64 o, .int .i64 g]), (C0, 50, #[.int .i64 u, .int .i64 n, .slice sa sl.length sc])] sa sc sl none 0 [] none 0 [] none 0 [] none 0 [] ((uy.setCell ⟨C4, 0, none⟩ (.int .i64 m)).setCell ⟨C4, 1, none⟩ (.int .i64 y)) := k19_0.p2 1 (.int .i64 y)
  have k19_2 : Sw w C0 [] [(C6, 90, #[.int .i64 2, .int .i64 0, .int .i64 xf, .int .i64 (n - u), .int .i64 n]), (C5, 48, #[.int .i64 m, .int .i64 y, .int .i64 z, .int .i64 p, .int .i64 d, .int .i64 o, .int .i64 g]), (C4, 48, #[.int .i64 m, .int .i64 y, .int .i64 z, .int .i64 0, .int .i64 0, .int .i64 0, .int .i64 0]), (C3, 50, #[.int .i64 u, .int .i64 n, .slice sa sl.length sc]), (C2, 33, #[.int .i64 xk, .int .i64 xf, .int .i64 xn, .slice xa xl.length xc]), (C1, 48, #[.int .i64 m, .int .i64 y, .int .i64 z, .int .i64 p, .int .i64 d, .int .i64 o, .int .i64 g]), (C0, 50, #[.int .i64 u, .int .i64 n, .slice sa sl.length sc])] sa sc sl none 0 [] none 0 [] none 0 [] none 0 [] (((uy.setCell ⟨C4, 0, none⟩ (.int .i64 m)).setCell ⟨C4, 1, none⟩ (.int .i64 y)).setCell ⟨C4, 2, none⟩ (.int .i64 z)) := k19_1.p2 2 (.int .i64 z)
  have k19_3 : Sw w C0 [] [(C6, 90, #[.int .i64 2, .int .i64 0, .int .i64 xf, .int .i64 (n - u), .int .i64 n]), (C5, 48, #[.int .i64 m, .int .i64 y, .int .i64 z, .int .i64 p, .int .i64 d, .int .i64 o, .int .i64 g]), (C4, 48, #[.int .i64 m, .int .i64 y, .int .i64 z, .int .i64 p, .int .i64 0, .int .i64 0, .int .i64 0]), (C3, 50, #[.int .i64 u, .int .i64 n, .slice sa sl.length sc]), (C2, 33, #[.int .i64 xk, .int .i64 xf, .int .i64 xn, .slice xa xl.length xc]), (C1, 48, #[.int .i64 m, .int .i64 y, .int .i64 z, .int .i64 p, .int .i64 d, .int .i64 o, .int .i64 g]), (C0, 50, #[.int .i64 u, .int .i64 n, .slice sa sl.length sc])] sa sc sl none 0 [] none 0 [] none 0 [] none 0 [] ((((uy.setCell ⟨C4, 0, none⟩ (.int .i64 m)).setCell ⟨C4, 1, none⟩ (.int .i64 y)).setCell ⟨C4, 2, none⟩ (.int .i64 z)).setCell ⟨C4, 3, none⟩ (.int .i64 p)) := k19_2.p2 3 (.int .i64 p)
  have k19_4 : Sw w C0 [] [(C6, 90, #[.int .i64 2, .int .i64 0, .int .i64 xf, .int .i64 (n - u), .int .i64 n]), (C5, 48, #[.int .i64 m, .int .i64 y, .int .i64 z, .int .i64 p, .int .i64 d, .int .i64 o, .int .i64 g]), (C4, 48, #[.int .i64 m, .int .i64 y, .int .i64 z, .int .i64 p, .int .i64 d, .int .i64 0, .int .i64 0]), (C3, 50, #[.int .i64 u, .int .i64 n, .slice sa sl.length sc]), (C2, 33, #[.int .i64 xk, .int .i64 xf, .int .i64 xn, .slice xa xl.length xc]), (C1, 48, #[.int .i64 m, .int .i64 y, .int .i64 z, .int .i64 p, .int .i64 d, .int .i64 o, .int .i64 g]), (C0, 50, #[.int .i64 u, .int .i64 n, .slice sa sl.length sc])] sa sc sl none 0 [] none 0 [] none 0 [] none 0 [] (((((uy.setCell ⟨C4, 0, none⟩ (.int .i64 m)).setCell ⟨C4, 1, none⟩ (.int .i64 y)).setCell ⟨C4, 2, none⟩ (.int .i64 z)).setCell ⟨C4, 3, none⟩ (.int .i64 p)).setCell ⟨C4, 4, none⟩ (.int .i64 d)) := k19_3.p2 4 (.int .i64 d)
  have k19_5 : Sw w C0 [] [(C6, 90, #[.int .i64 2, .int .i64 0, .int .i64 xf, .int .i64 (n - u), .int .i64 n]), (C5, 48, #[.int .i64 m, .int .i64 y, .int .i64 z, .int .i64 p, .int .i64 d, .int .i64 o, .int .i64 g]), (C4, 48, #[.int .i64 m, .int .i64 y, .int .i64 z, .int .i64 p, .int .i64 d, .int .i64 o, .int .i64 0]), (C3, 50, #[.int .i64 u, .int .i64 n, .slice sa sl.length sc]), (C2, 33, #[.int .i64 xk, .int .i64 xf, .int .i64 xn, .slice xa xl.length xc]), (C1, 48, #[.int .i64 m, .int .i64 y, .int .i64 z, .int .i64 p, .int .i64 d, .int .i64 o, .int .i64 g]), (C0, 50, #[.int .i64 u, .int .i64 n, .slice sa sl.length sc])] sa sc sl none 0 [] none 0 [] none 0 [] none 0 [] ((((((uy.setCell ⟨C4, 0, none⟩ (.int .i64 m)).setCell ⟨C4, 1, none⟩ (.int .i64 y)).setCell ⟨C4, 2, none⟩ (.int .i64 z)).setCell ⟨C4, 3, none⟩ (.int .i64 p)).setCell ⟨C4, 4, none⟩ (.int .i64 d)).setCell ⟨C4, 5, none⟩ (.int .i64 o)) := k19_4.p2 5 (.int .i64 o)
  have k19_6 : Sw w C0 [] [(C6, 90, #[.int .i64 2, .int .i64 0, .int .i64 xf, .int .i64 (n - u), .int .i64 n]), (C5, 48, #[.int .i64 m, .int .i64 y, .int .i64 z, .int .i64 p, .int .i64 d, .int .i64 o, .int .i64 g]), (C4, 48, #[.int .i64 m, .int .i64 y, .int .i64 z, .int .i64 p, .int .i64 d, .int .i64 o, .int .i64 g]), (C3, 50, #[.int .i64 u, .int .i64 n, .slice sa sl.length sc]), (C2, 33, #[.int .i64 xk, .int .i64 xf, .int .i64 xn, .slice xa xl.length xc]), (C1, 48, #[.int .i64 m, .int .i64 y, .int .i64 z, .int .i64 p, .int .i64 d, .int .i64 o, .int .i64 g]), (C0, 50, #[.int .i64 u, .int .i64 n, .slice sa sl.length sc])] sa sc sl none 0 [] none 0 [] none 0 [] none 0 [] (((((((uy.setCell ⟨C4, 0, none⟩ (.int .i64 m)).setCell ⟨C4, 1, none⟩ (.int .i64 y)).setCell ⟨C4, 2, none⟩ (.int .i64 z)).setCell ⟨C4, 3, none⟩ (.int .i64 p)).setCell ⟨C4, 4, none⟩ (.int .i64 d)).setCell ⟨C4, 5, none⟩ (.int .i64 o)).setCell ⟨C4, 6, none⟩ (.int .i64 g)) := k19_5.p2 6 (.int .i64 g)
  refine gen_wr (P := fun V => Sw w C0 [] [(C6, 90, #[.int .i64 2, .int .i64 0, .int .i64 xf, .int .i64 (n - u), .int .i64 n]), (C5, 48, #[.int .i64 m, .int .i64 y, .int .i64 z, .int .i64 p, .int .i64 d, .int .i64 o, .int .i64 g]), (C4, 48, #[.int .i64 m, .int .i64 y, .int .i64 z, .int .i64 p, .int .i64 d, .int .i64 o, .int .i64 g]), (C3, 50, #[.int .i64 u, .int .i64 n, .slice sa sl.length sc]), (C2, 33, #[.int .i64 xk, .int .i64 xf, .int .i64 xn, .slice xa xl.length xc]), (C1, 48, #[.int .i64 m, .int .i64 y, .int .i64 z, .int .i64 p, .int .i64 d, .int .i64 o, .int .i64 g]), (C0, 50, #[.int .i64 u, .int .i64 n, .slice sa sl.length sc])] sa sc sl none 0 [] none 0 [] none 0 [] none 0 [] V) k19_6 (fun uz hz => ?_)
  clear lr zz0 f0 zz1 f1 zz2 f2 zz3 f3 zz4 f4 zz5 f5 zz6 f6 k19_0 k19_1 k19_2 k19_3 k19_4 k19_5 k19_6
  have HD2 := Lib.hid hz
  clear hz
  refine hK.out _ _ (⟨(HD2.out).b6.c 0 rfl, (HD2.out).b6.c 1 rfl, (HD2.out).b6.c 2 rfl, (HD2.out).b5.c 0 rfl, (HD2.out).b5.c 1 rfl, (HD2.out).b5.c 2 rfl, (HD2.out).b5.c 3 rfl, (HD2.out).b5.c 4 rfl, (HD2.out).b5.c 5 rfl, (HD2.out).b5.c 6 rfl⟩) (fun hS => ?_)
  clear hK
  try simp only [List.getElem_toArray, List.getElem_cons_zero, List.getElem_cons_succ, Act.put, List.setIfInBounds_toArray, List.set_cons_zero, List.set_cons_succ]
  refine wpAnyH_take (i := 4) (v := ?_) rfl (by kernel_rfl) (by kernel_rfl) (by kernel_rfl) (fun _ _ _ h => h) (Or.inl ⟨by kernel_rfl, ?_⟩) hS ?_
  rotate_left
  · intro w' hSw
    obtain ⟨g0, g1, g2, g3, g4, g5, g6, g7, g8, g9⟩ := hSw
    first | (go_simp; done) | (go_simp; with_reducible rfl)
  simp only [List.getElem_toArray, List.getElem_cons_zero, List.getElem_cons_succ, Act.put, List.setIfInBounds_toArray, List.set_cons_zero, List.set_cons_succ]
  refine wpAnyH_done (by kernel_rfl) ?_ _
  have r0 : (uz).cell? ⟨C3, 0, none⟩ = some (.int .i64 u) := HD2.out.b3.c 0 rfl
  have r1 : (uz).cell? ⟨C3, 1, none⟩ = some (.int .i64 n) := HD2.out.b3.c 1 rfl
  have r2 : (uz).cell? ⟨C3, 2, none⟩ = some (.slice sa sl.length sc) := HD2.out.b3.c 2 rfl
  have s0 : (uz).cell? ⟨C4, 0, none⟩ = some (.int .i64 m) := HD2.out.b2.c 0 rfl
  have s1 : (uz).cell? ⟨C4, 1, none⟩ = some (.int .i64 y) := HD2.out.b2.c 1 rfl
  have s2 : (uz).cell? ⟨C4, 2, none⟩ = some (.int .i64 z) := HD2.out.b2.c 2 rfl
  have s3 : (uz).cell? ⟨C4, 3, none⟩ = some (.int .i64 p) := HD2.out.b2.c 3 rfl
  have s4 : (uz).cell? ⟨C4, 4, none⟩ = some (.int .i64 d) := HD2.out.b2.c 4 rfl
  have s5 : (uz).cell? ⟨C4, 5, none⟩ = some (.int .i64 o) := HD2.out.b2.c 5 rfl
  have s6 : (uz).cell? ⟨C4, 6, none⟩ = some (.int .i64 g) := HD2.out.b2.c 6 rfl
  go_wp2_with fail
  refine bodyPost_ret (v := .tuple #[.agg #[.int .i64 u, .int .i64 n, .slice sa sl.length sc], .agg #[.int .i64 m, .int .i64 y, .int .i64 z, .int .i64 p, .int .i64 d, .int .i64 o, .int .i64 g], .bool false]) (by simp [results, Try.results48, go_sem, r0, r1, r2, s0, s1, s2, s3, s4, s5, s6]) rfl ?_
  exact ⟨_, _, _, _, _, _, _, _, _, _, _, _, _, rfl, HD2.out.k.grown (World.grownBy.refl _ _) (Nat.le_of_eq HCC.out.symm), HD2.out.l.s, HD2.out.l.ss.lt, HBR.out⟩

set_option maxRecDepth 100000 in
set_option maxHeartbeats 8000000 in
theorem heard_F (u n : Int) (sa : Option Addr) (sc : Nat) (sl : List Rg) (m y z p d o g : Int) (xk xf xn : Int) (xa : Option Addr) (xc : Nat) (xl : List Rg) (w : World) (h : RowOk w sa sc sl) (hs : ∀ b, bkA sa = some b → b < w.heap.size) (hsl : sl.length ≤ 1000) (hx : RgAt w xa xl) (hxl : xl.length ≤ 1000) (hrn : rnOk ⟨m, y, z, p, d, o, g⟩ = true) (hu0 : 0 ≤ u) (hun : u ≤ n) (hn9 : n ≤ 1000000000) (hxf0 : 0 ≤ xf) (hxf1 : xf ≤ 1000000000) (hA1 : ¬ u < xf) (hB1 : ¬ xf = u) :
    Calls Try.prog 48 #[.agg #[.int .i64 u, .int .i64 n, .slice sa sl.length sc], .agg #[.int .i64 m, .int .i64 y, .int .i64 z, .int .i64 p, .int .i64 d, .int .i64 o, .int .i64 g], .agg #[.int .i64 xk, .int .i64 xf, .int .i64 xn, .slice xa xl.length xc]] w (HdPost w sa sc sl) := by
  have HX := Lib.hid (And.intro hx hxl)
  have HB0 := Lib.hid hsl
  have _ := And.intro hu0 (And.intro hun (And.intro hn9 (And.intro hxf0 hxf1)))
  have _ := hrn
  have hw : IntKind.i64.wrap (n - u) = n - u := IntWalk.i64_in _ (by omega)
  obtain ⟨C0, hC0⟩ : ∃ C, C = w.heap.size := ⟨_, rfl⟩
  obtain ⟨C1, hC1⟩ : ∃ C, C = w.heap.size + 1 := ⟨_, rfl⟩
  obtain ⟨C2, hC2⟩ : ∃ C, C = w.heap.size + 1 + 1 := ⟨_, rfl⟩
  obtain ⟨C3, hC3⟩ : ∃ C, C = w.heap.size + 1 + 1 + 1 := ⟨_, rfl⟩
  obtain ⟨C4, hC4⟩ : ∃ C, C = w.heap.size + 1 + 1 + 1 + 1 := ⟨_, rfl⟩
  have k := ((((((Sw.start (LwAt.board w h hs) (Nat.le_refl _)).new 50 #[.int .i64 u, .int .i64 n, .slice sa sl.length sc]).new 48 #[.int .i64 m, .int .i64 y, .int .i64 z, .int .i64 p, .int .i64 d, .int .i64 o, .int .i64 g]).new 33 #[.int .i64 xk, .int .i64 xf, .int .i64 xn, .slice xa xl.length xc]).new 50 #[.int .i64 0, .int .i64 0, .slice none 0 0]).new 48 #[.int .i64 0, .int .i64 0, .int .i64 0, .int .i64 0, .int .i64 0, .int .i64 0, .int .i64 0])
  simp only [World.size_alloc] at k
  rw [← hC4, ← hC3, ← hC2, ← hC1, ← hC0] at k
  have H0 := Lib.hid k
  clear k h hs
  go_enter Try.func48, Try.ntmps48
  go_upto_region 1 with fail
  try simp only [World.size_alloc]
  try rw [← hC4]
  try rw [← hC3]
  try rw [← hC2]
  try rw [← hC1]
  try rw [← hC0]
  have HCC := Lib.hid hC0
  clear hC0 hC1 hC2 hC3 hC4
  generalize (((((w.alloc (.cells #[.int .i64 u, .int .i64 n, .slice sa sl.length sc] 50)).alloc (.cells #[.int .i64 m, .int .i64 y, .int .i64 z, .int .i64 p, .int .i64 d, .int .i64 o, .int .i64 g] 48)).alloc (.cells #[.int .i64 xk, .int .i64 xf, .int .i64 xn, .slice xa xl.length xc] 33)).alloc (.cells #[.int .i64 0, .int .i64 0, .slice none 0 0] 50)).alloc (.cells #[.int .i64 0, .int .i64 0, .int .i64 0, .int .i64 0, .int .i64 0, .int .i64 0, .int .i64 0] 48)) = W0 at *
  have c0 : (W0).cell? ⟨C1, 0, none⟩ = some (.int .i64 m) := H0.out.b3.c 0 rfl
  have c1 : (W0).cell? ⟨C1, 1, none⟩ = some (.int .i64 y) := H0.out.b3.c 1 rfl
  have c2 : (W0).cell? ⟨C1, 2, none⟩ = some (.int .i64 z) := H0.out.b3.c 2 rfl
  have c3 : (W0).cell? ⟨C1, 3, none⟩ = some (.int .i64 p) := H0.out.b3.c 3 rfl
  have c4 : (W0).cell? ⟨C1, 4, none⟩ = some (.int .i64 d) := H0.out.b3.c 4 rfl
  have c5 : (W0).cell? ⟨C1, 5, none⟩ = some (.int .i64 o) := H0.out.b3.c 5 rfl
  have c6 : (W0).cell? ⟨C1, 6, none⟩ = some (.int .i64 g) := H0.out.b3.c 6 rfl
  have H1 := Lib.hid (H0.out.new 48 #[.int .i64 m, .int .i64 y, .int .i64 z, .int .i64 p, .int .i64 d, .int .i64 o, .int .i64 g])
  go_upto_region 2 with fail
  clear H0 c0 c1 c2 c3 c4 c5 c6
  generalize W0.alloc (.cells #[.int .i64 m, .int .i64 y, .int .i64 z, .int .i64 p, .int .i64 d, .int .i64 o, .int .i64 g] 48) = W1 at *
  generalize W0.heap.size = C5 at *
  have x1 : (W1).cell? ⟨C2, 1, none⟩ = some (.int .i64 xf) := H1.out.b3.c 1 rfl
  have c0 : (W1).cell? ⟨C0, 0, none⟩ = some (.int .i64 u) := H1.out.b5.c 0 rfl
  have c1 : (W1).cell? ⟨C0, 1, none⟩ = some (.int .i64 n) := H1.out.b5.c 1 rfl
  have H2 := Lib.hid (H1.out.new 90 #[.int .i64 2, .int .i64 0, .int .i64 xf, .int .i64 (n - u), .int .i64 n])
  go_upto_region 3 with fail
  clear H1 x1 c0 c1
  generalize W1.alloc (.cells #[.int .i64 2, .int .i64 0, .int .i64 xf, .int .i64 (n - u), .int .i64 n] 90) = W2 at *
  generalize W1.heap.size = C6 at *
  have x1 : (W2).cell? ⟨C2, 1, none⟩ = some (.int .i64 xf) := H2.out.b4.c 1 rfl
  have c0 : (W2).cell? ⟨C0, 0, none⟩ = some (.int .i64 u) := H2.out.b6.c 0 rfl
  have c1 : (W2).cell? ⟨C0, 1, none⟩ = some (.int .i64 n) := H2.out.b6.c 1 rfl
  have HBR := Lib.hid (show BrN w sa sc sl sa sc sl from ⟨HB0.out, .inl ⟨rfl, rfl, rfl⟩⟩)
  go_upto_region 8 with fail
  clear x1 c0 c1
  refine wp_region_held_drew (S := fun w' => w'.cell? ⟨C0, 0, none⟩ = some (.int .i64 u) ∧ w'.cell? ⟨C0, 1, none⟩ = some (.int .i64 n) ∧ w'.cell? ⟨C0, 2, none⟩ = some (.slice sa sl.length sc) ∧ w'.cell? ⟨C1, 0, none⟩ = some (.int .i64 m) ∧ w'.cell? ⟨C1, 1, none⟩ = some (.int .i64 y) ∧ w'.cell? ⟨C1, 2, none⟩ = some (.int .i64 z) ∧ w'.cell? ⟨C1, 3, none⟩ = some (.int .i64 p) ∧ w'.cell? ⟨C1, 4, none⟩ = some (.int .i64 d) ∧ w'.cell? ⟨C1, 5, none⟩ = some (.int .i64 o) ∧ w'.cell? ⟨C1, 6, none⟩ = some (.int .i64 g)) (by kernel_rfl) (by have hd := H2.out.keep (grownBy_drew (r := none)); exact ⟨(hd).b6.c 0 rfl, (hd).b6.c 1 rfl, (hd).b6.c 2 rfl, (hd).b5.c 0 rfl, (hd).b5.c 1 rfl, (hd).b5.c 2 rfl, (hd).b5.c 3 rfl, (hd).b5.c 4 rfl, (hd).b5.c 5 rfl, (hd).b5.c 6 rfl⟩) (fun hS => ?_)
  have HD0 := Lib.hid (H2.out.keep (grownBy_drew (r := none)))
  refine wpAnyH_take (i := 0) (v := ?_) rfl (by kernel_rfl) (by kernel_rfl) (by kernel_rfl) (fun _ _ _ h => h) (Or.inl ⟨by kernel_rfl, ?_⟩) hS ?_
  rotate_left
  · intro w' hSw
    obtain ⟨g0, g1, g2, g3, g4, g5, g6, g7, g8, g9⟩ := hSw
    first | (go_simp; done) | (go_simp; with_reducible rfl)
  simp only [List.getElem_toArray, List.getElem_cons_zero, Act.put, List.setIfInBounds_toArray, List.set_cons_zero, List.set_cons_succ]
  refine wpAnyH_take (i := 1) (v := ?_) rfl (by kernel_rfl) (by kernel_rfl) (by kernel_rfl) (fun _ _ _ h => h) (Or.inl ⟨by kernel_rfl, ?_⟩) hS ?_
  rotate_left
  · intro w' hSw
    obtain ⟨g0, g1, g2, g3, g4, g5, g6, g7, g8, g9⟩ := hSw
    first | (go_simp; done) | (go_simp; with_reducible rfl)
  simp only [List.getElem_toArray, List.getElem_cons_zero, List.getElem_cons_succ, Act.put, List.setIfInBounds_toArray, List.set_cons_zero, List.set_cons_succ]
  refine wpAnyH_ready (rs := [2]) (by kernel_rfl) (List.cons_ne_nil _ _) ?_
  refine AllReadyH.cons rfl (fun K hK => ?_) AllReadyH.nil
  generalize W2.drew = Wd at *
  have zz0 : (Wd).cell? ⟨C3, 0, none⟩ = some (.int .i64 0) := HD0.out.b3.c 0 rfl
  have zz1 : (Wd).cell? ⟨C3, 1, none⟩ = some (.int .i64 0) := HD0.out.b3.c 1 rfl
  have zz2 : (Wd).cell? ⟨C3, 2, none⟩ = some (.slice none 0 0) := HD0.out.b3.c 2 rfl
  have f0 := HD0.out.b3.f 0
  have f1 := HD0.out.b3.f 1
  have f2 := HD0.out.b3.f 2
  have lr := HD0.out.b3.lt
  go_simp
  have k18_0 : Sw w C0 [] [(C6, 90, #[.int .i64 2, .int .i64 0, .int .i64 xf, .int .i64 (n - u), .int .i64 n]), (C5, 48, #[.int .i64 m, .int .i64 y, .int .i64 z, .int .i64 p, .int .i64 d, .int .i64 o, .int .i64 g]), (C4, 48, #[.int .i64 0, .int .i64 0, .int .i64 0, .int .i64 0, .int .i64 0, .int .i64 0, .int .i64 0]), (C3, 50, #[.int .i64 u, .int .i64 0, .slice none 0 0]), (C2, 33, #[.int .i64 xk, .int .i64 xf, .int .i64 xn, .slice xa xl.length xc]), (C1, 48, #[.int .i64 m, .int .i64 y, .int .i64 z, .int .i64 p, .int .i64 d, .int .i64 o, .int .i64 g]), (C0, 50, #[.int .i64 u, .int .i64 n, .slice sa sl.length sc])] sa sc sl none 0 [] none 0 [] none 0 [] none 0 [] (Wd.setCell ⟨C3, 0, none⟩ (.int .i64 u)) := HD0.out.p3 0 (.int .i64 u)
  have k18_1 : Sw w C0 [] [(C6, 90, #[.int .i64 2, .int .i64 0, .int .i64 xf, .int .i64 (n - u), .int .i64 n]), (C5, 48, #[.int .i64 m, .int .i64 y, .int .i64 z, .int .i64 p, .int .i64 d, .int .i64 o, .int .i64 g]), (C4, 48, #[.int .i64 0, .int .i64 0, .int .i64 0, .int .i64 0, .int .i64 0, .int .i64 0, .int .i64 0]), (C3, 50, #[.int .i64 u, .int .i64 n, .slice none 0 0]), (C2, 33, #[.int .i64 xk, .int .i64 xf, .int .i64 xn, .slice xa xl.length xc]), (C1, 48, #[.int .i64 m, .int .i64 y, .int .i64 z, .int .i64 p, .int .i64 d, .int .i64 o, .int .i64 g]), (C0, 50, #[.int .i64 u, .int .i64 n, .slice sa sl.length sc])] sa sc sl none 0 [] none 0 [] none 0 [] none 0 [] ((Wd.setCell ⟨C3, 0, none⟩ (.int .i64 u)).setCell ⟨C3, 1, none⟩ (.int .i64 n)) := k18_0.p3 1 (.int .i64 n)
  have k18_2 : Sw w C0 [] [(C6, 90, #[.int .i64 2, .int .i64 0, .int .i64 xf, .int .i64 (n - u), .int .i64 n]), (C5, 48, #[.int .i64 m, .int .i64 y, .int .i64 z, .int .i64 p, .int .i64 d, .int .i64 o, .int .i64 g]), (C4, 48, #[.int .i64 0, .int .i64 0, .int .i64 0, .int .i64 0, .int .i64 0, .int .i64 0, .int .i64 0]), (C3, 50, #[.int .i64 u, .int .i64 n, .slice sa sl.length sc]), (C2, 33, #[.int .i64 xk, .int .i64 xf, .int .i64 xn, .slice xa xl.length xc]), (C1, 48, #[.int .i64 m, .int .i64 y, .int .i64 z, .int .i64 p, .int .i64 d, .int .i64 o, .int .i64 g]), (C0, 50, #[.int .i64 u, .int .i64 n, .slice sa sl.length sc])] sa sc sl none 0 [] none 0 [] none 0 [] none 0 [] (((Wd.setCell ⟨C3, 0, none⟩ (.int .i64 u)).setCell ⟨C3, 1, none⟩ (.int .i64 n)).setCell ⟨C3, 2, none⟩ (.slice sa sl.length sc)) := k18_1.p3 2 (.slice sa sl.length sc)
  refine gen_wr (P := fun V => Sw w C0 [] [(C6, 90, #[.int .i64 2, .int .i64 0, .int .i64 xf, .int .i64 (n - u), .int .i64 n]), (C5, 48, #[.int .i64 m, .int .i64 y, .int .i64 z, .int .i64 p, .int .i64 d, .int .i64 o, .int .i64 g]), (C4, 48, #[.int .i64 0, .int .i64 0, .int .i64 0, .int .i64 0, .int .i64 0, .int .i64 0, .int .i64 0]), (C3, 50, #[.int .i64 u, .int .i64 n, .slice sa sl.length sc]), (C2, 33, #[.int .i64 xk, .int .i64 xf, .int .i64 xn, .slice xa xl.length xc]), (C1, 48, #[.int .i64 m, .int .i64 y, .int .i64 z, .int .i64 p, .int .i64 d, .int .i64 o, .int .i64 g]), (C0, 50, #[.int .i64 u, .int .i64 n, .slice sa sl.length sc])] sa sc sl none 0 [] none 0 [] none 0 [] none 0 [] V) k18_2 (fun uy hz => ?_)
  clear lr zz0 f0 zz1 f1 zz2 f2 k18_0 k18_1 k18_2
  have HD1 := Lib.hid hz
  clear hz
  refine hK.out _ _ (⟨(HD1.out).b6.c 0 rfl, (HD1.out).b6.c 1 rfl, (HD1.out).b6.c 2 rfl, (HD1.out).b5.c 0 rfl, (HD1.out).b5.c 1 rfl, (HD1.out).b5.c 2 rfl, (HD1.out).b5.c 3 rfl, (HD1.out).b5.c 4 rfl, (HD1.out).b5.c 5 rfl, (HD1.out).b5.c 6 rfl⟩) (fun hS => ?_)
  clear hK
  try simp only [List.getElem_toArray, List.getElem_cons_zero, List.getElem_cons_succ, Act.put, List.setIfInBounds_toArray, List.set_cons_zero, List.set_cons_succ]
  refine wpAnyH_ready (rs := [3]) (by kernel_rfl) (List.cons_ne_nil _ _) ?_
  refine AllReadyH.cons rfl (fun K hK => ?_) AllReadyH.nil
  have zz0 : (uy).cell? ⟨C4, 0, none⟩ = some (.int .i64 0) := HD1.out.b2.c 0 rfl
  have zz1 : (uy).cell? ⟨C4, 1, none⟩ = some (.int .i64 0) := HD1.out.b2.c 1 rfl
  have zz2 : (uy).cell? ⟨C4, 2, none⟩ = some (.int .i64 0) := HD1.out.b2.c 2 rfl
  have zz3 : (uy).cell? ⟨C4, 3, none⟩ = some (.int .i64 0) := HD1.out.b2.c 3 rfl
  have zz4 : (uy).cell? ⟨C4, 4, none⟩ = some (.int .i64 0) := HD1.out.b2.c 4 rfl
  have zz5 : (uy).cell? ⟨C4, 5, none⟩ = some (.int .i64 0) := HD1.out.b2.c 5 rfl
  have zz6 : (uy).cell? ⟨C4, 6, none⟩ = some (.int .i64 0) := HD1.out.b2.c 6 rfl
  have f0 := HD1.out.b2.f 0
  have f1 := HD1.out.b2.f 1
  have f2 := HD1.out.b2.f 2
  have f3 := HD1.out.b2.f 3
  have f4 := HD1.out.b2.f 4
  have f5 := HD1.out.b2.f 5
  have f6 := HD1.out.b2.f 6
  have lr := HD1.out.b2.lt
  go_simp
  have k19_0 : Sw w C0 [] [(C6, 90, #[.int .i64 2, .int .i64 0, .int .i64 xf, .int .i64 (n - u), .int .i64 n]), (C5, 48, #[.int .i64 m, .int .i64 y, .int .i64 z, .int .i64 p, .int .i64 d, .int .i64 o, .int .i64 g]), (C4, 48, #[.int .i64 m, .int .i64 0, .int .i64 0, .int .i64 0, .int .i64 0, .int .i64 0, .int .i64 0]), (C3, 50, #[.int .i64 u, .int .i64 n, .slice sa sl.length sc]), (C2, 33, #[.int .i64 xk, .int .i64 xf, .int .i64 xn, .slice xa xl.length xc]), (C1, 48, #[.int .i64 m, .int .i64 y, .int .i64 z, .int .i64 p, .int .i64 d, .int .i64 o, .int .i64 g]), (C0, 50, #[.int .i64 u, .int .i64 n, .slice sa sl.length sc])] sa sc sl none 0 [] none 0 [] none 0 [] none 0 [] (uy.setCell ⟨C4, 0, none⟩ (.int .i64 m)) := HD1.out.p2 0 (.int .i64 m)
  have k19_1 : Sw w C0 [] [(C6, 90, #[.int .i64 2, .int .i64 0, .int .i64 xf, .int .i64 (n - u), .int .i64 n]), (C5, 48, #[.int .i64 m, .int .i64 y, .int .i64 z, .int .i64 p, .int .i64 d, .int .i64 o, .int .i64 g]), (C4, 48, #[.int .i64 m, .int .i64 y, .int .i64 0, .int .i64 0, .int .i64 0, .int .i64 0, .int .i64 0]), (C3, 50, #[.int .i64 u, .int .i64 n, .slice sa sl.length sc]), (C2, 33, #[.int .i64 xk, .int .i64 xf, .int .i64 xn, .slice xa xl.length xc]), (C1, 48, #[.int .i64 m, .int .i64 y, .int .i64 z, .int .i64 p, .int .i64 d, .int .i64 o, .int .i64 g]), (C0, 50, #[.int .i64 u, .int .i64 n, .slice sa sl.length sc])] sa sc sl none 0 [] none 0 [] none 0 [] none 0 [] ((uy.setCell ⟨C4, 0, none⟩ (.int .i64 m)).setCell ⟨C4, 1, none⟩ (.int .i64 y)) := k19_0.p2 1 (.int .i64 y)
  have k19_2 : Sw w C0 [] [(C6, 90, #[.int .i64 2, .int .i64 0, .int .i64 xf, .int .i64 (n - u), .int .i64 n]), (C5, 48, #[.int .i64 m, .int .i64 y, .int .i64 z, .int .i64 p, .int .i64 d, .int .i64 o, .int .i64 g]), (C4, 48, #[.int .i64 m, .int .i64 y, .int .i64 z, .int .i64 0, .int .i64 0, .int .i64 0, .int .i64 0]), (C3, 50, #[.int .i64 u, .int .i64 n, .slice sa sl.length sc]), (C2, 33, #[.int .i64 xk, .int .i64 xf, .int .i64 xn, .slice xa xl.length xc]), (C1, 48, #[.int .i64 m, .int .i64 y, .int .i64 z, .int .i64 p, .int .i64 d, .int .i64 o, .int .i64 g]), (C0, 50, #[.int .i64 u, .int .i64 n, .slice sa sl.length sc])] sa sc sl none 0 [] none 0 [] none 0 [] none 0 [] (((uy.setCell ⟨C4, 0, none⟩ (.int .i64 m)).setCell ⟨C4, 1, none⟩ (.int .i64 y)).setCell ⟨C4, 2, none⟩ (.int .i64 z)) := k19_1.p2 2 (.int .i64 z)
  have k19_3 : Sw w C0 [] [(C6, 90, #[.int .i64 2, .int .i64 0, .int .i64 xf, .int .i64 (n - u), .int .i64 n]), (C5, 48, #[.int .i64 m, .int .i64 y, .int .i64 z, .int .i64 p, .int .i64 d, .int .i64 o, .int .i64 g]), (C4, 48, #[.int .i64 m, .int .i64 y, .int .i64 z, .int .i64 p, .int .i64 0, .int .i64 0, .int .i64 0]), (C3, 50, #[.int .i64 u, .int .i64 n, .slice sa sl.length sc]), (C2, 33, #[.int .i64 xk, .int .i64 xf, .int .i64 xn, .slice xa xl.length xc]), (C1, 48, #[.int .i64 m, .int .i64 y, .int .i64 z, .int .i64 p, .int .i64 d, .int .i64 o, .int .i64 g]), (C0, 50, #[.int .i64 u, .int .i64 n, .slice sa sl.length sc])] sa sc sl none 0 [] none 0 [] none 0 [] none 0 [] ((((uy.setCell ⟨C4, 0, none⟩ (.int .i64 m)).setCell ⟨C4, 1, none⟩ (.int .i64 y)).setCell ⟨C4, 2, none⟩ (.int .i64 z)).setCell ⟨C4, 3, none⟩ (.int .i64 p)) := k19_2.p2 3 (.int .i64 p)
  have k19_4 : Sw w C0 [] [(C6, 90, #[.int .i64 2, .int .i64 0, .int .i64 xf, .int .i64 (n - u), .int .i64 n]), (C5, 48, #[.int .i64 m, .int .i64 y, .int .i64 z, .int .i64 p, .int .i64 d, .int .i64 o, .int .i64 g]), (C4, 48, #[.int .i64 m, .int .i64 y, .int .i64 z, .int .i64 p, .int .i64 d, .int .i64 0, .int .i64 0]), (C3, 50, #[.int .i64 u, .int .i64 n, .slice sa sl.length sc]), (C2, 33, #[.int .i64 xk, .int .i64 xf, .int .i64 xn, .slice xa xl.length xc]), (C1, 48, #[.int .i64 m, .int .i64 y, .int .i64 z, .int .i64 p, .int .i64 d, .int .i64 o, .int .i64 g]), (C0, 50, #[.int .i64 u, .int .i64 n, .slice sa sl.length sc])] sa sc sl none 0 [] none 0 [] none 0 [] none 0 [] (((((uy.setCell ⟨C4, 0, none⟩ (.int .i64 m)).setCell ⟨C4, 1, none⟩ (.int .i64 y)).setCell ⟨C4, 2, none⟩ (.int .i64 z)).setCell ⟨C4, 3, none⟩ (.int .i64 p)).setCell ⟨C4, 4, none⟩ (.int .i64 d)) := k19_3.p2 4 (.int .i64 d)
  have k19_5 : Sw w C0 [] [(C6, 90, #[.int .i64 2, .int .i64 0, .int .i64 xf, .int .i64 (n - u), .int .i64 n]), (C5, 48, #[.int .i64 m, .int .i64 y, .int .i64 z, .int .i64 p, .int .i64 d, .int .i64 o, .int .i64 g]), (C4, 48, #[.int .i64 m, .int .i64 y, .int .i64 z, .int .i64 p, .int .i64 d, .int .i64 o, .int .i64 0]), (C3, 50, #[.int .i64 u, .int .i64 n, .slice sa sl.length sc]), (C2, 33, #[.int .i64 xk, .int .i64 xf, .int .i64 xn, .slice xa xl.length xc]), (C1, 48, #[.int .i64 m, .int .i64 y, .int .i64 z, .int .i64 p, .int .i64 d, .int .i64 o, .int .i64 g]), (C0, 50, #[.int .i64 u, .int .i64 n, .slice sa sl.length sc])] sa sc sl none 0 [] none 0 [] none 0 [] none 0 [] ((((((uy.setCell ⟨C4, 0, none⟩ (.int .i64 m)).setCell ⟨C4, 1, none⟩ (.int .i64 y)).setCell ⟨C4, 2, none⟩ (.int .i64 z)).setCell ⟨C4, 3, none⟩ (.int .i64 p)).setCell ⟨C4, 4, none⟩ (.int .i64 d)).setCell ⟨C4, 5, none⟩ (.int .i64 o)) := k19_4.p2 5 (.int .i64 o)
  have k19_6 : Sw w C0 [] [(C6, 90, #[.int .i64 2, .int .i64 0, .int .i64 xf, .int .i64 (n - u), .int .i64 n]), (C5, 48, #[.int .i64 m, .int .i64 y, .int .i64 z, .int .i64 p, .int .i64 d, .int .i64 o, .int .i64 g]), (C4, 48, #[.int .i64 m, .int .i64 y, .int .i64 z, .int .i64 p, .int .i64 d, .int .i64 o, .int .i64 g]), (C3, 50, #[.int .i64 u, .int .i64 n, .slice sa sl.length sc]), (C2, 33, #[.int .i64 xk, .int .i64 xf, .int .i64 xn, .slice xa xl.length xc]), (C1, 48, #[.int .i64 m, .int .i64 y, .int .i64 z, .int .i64 p, .int .i64 d, .int .i64 o, .int .i64 g]), (C0, 50, #[.int .i64 u, .int .i64 n, .slice sa sl.length sc])] sa sc sl none 0 [] none 0 [] none 0 [] none 0 [] (((((((uy.setCell ⟨C4, 0, none⟩ (.int .i64 m)).setCell ⟨C4, 1, none⟩ (.int .i64 y)).setCell ⟨C4, 2, none⟩ (.int .i64 z)).setCell ⟨C4, 3, none⟩ (.int .i64 p)).setCell ⟨C4, 4, none⟩ (.int .i64 d)).setCell ⟨C4, 5, none⟩ (.int .i64 o)).setCell ⟨C4, 6, none⟩ (.int .i64 g)) := k19_5.p2 6 (.int .i64 g)
  refine gen_wr (P := fun V => Sw w C0 [] [(C6, 90, #[.int .i64 2, .int .i64 0, .int .i64 xf, .int .i64 (n - u), .int .i64 n]), (C5, 48, #[.int .i64 m, .int .i64 y, .int .i64 z, .int .i64 p, .int .i64 d, .int .i64 o, .int .i64 g]), (C4, 48, #[.int .i64 m, .int .i64 y, .int .i64 z, .int .i64 p, .int .i64 d, .int .i64 o, .int .i64 g]), (C3, 50, #[.int .i64 u, .int .i64 n, .slice sa sl.length sc]), (C2, 33, #[.int .i64 xk, .int .i64 xf, .int .i64 xn, .slice xa xl.length xc]), (C1, 48, #[.int .i64 m, .int .i64 y, .int .i64 z, .int .i64 p, .int .i64 d, .int .i64 o, .int .i64 g]), (C0, 50, #[.int .i64 u, .int .i64 n, .slice sa sl.length sc])] sa sc sl none 0 [] none 0 [] none 0 [] none 0 [] V) k19_6 (fun uz hz => ?_)
  clear lr zz0 f0 zz1 f1 zz2 f2 zz3 f3 zz4 f4 zz5 f5 zz6 f6 k19_0 k19_1 k19_2 k19_3 k19_4 k19_5 k19_6
  have HD2 := Lib.hid hz
  clear hz
  refine hK.out _ _ (⟨(HD2.out).b6.c 0 rfl, (HD2.out).b6.c 1 rfl, (HD2.out).b6.c 2 rfl, (HD2.out).b5.c 0 rfl, (HD2.out).b5.c 1 rfl, (HD2.out).b5.c 2 rfl, (HD2.out).b5.c 3 rfl, (HD2.out).b5.c 4 rfl, (HD2.out).b5.c 5 rfl, (HD2.out).b5.c 6 rfl⟩) (fun hS => ?_)
  clear hK
  try simp only [List.getElem_toArray, List.getElem_cons_zero, List.getElem_cons_succ, Act.put, List.setIfInBounds_toArray, List.set_cons_zero, List.set_cons_succ]
  refine wpAnyH_take (i := 4) (v := ?_) rfl (by kernel_rfl) (by kernel_rfl) (by kernel_rfl) (fun _ _ _ h => h) (Or.inl ⟨by kernel_rfl, ?_⟩) hS ?_
  rotate_left
  · intro w' hSw
    obtain ⟨g0, g1, g2, g3, g4, g5, g6, g7, g8, g9⟩ := hSw
    first | (go_simp; done) | (go_simp; with_reducible rfl)
  simp only [List.getElem_toArray, List.getElem_cons_zero, List.getElem_cons_succ, Act.put, List.setIfInBounds_toArray, List.set_cons_zero, List.set_cons_succ]
  refine wpAnyH_done (by kernel_rfl) ?_ _
  have r0 : (uz).cell? ⟨C3, 0, none⟩ = some (.int .i64 u) := HD2.out.b3.c 0 rfl
  have r1 : (uz).cell? ⟨C3, 1, none⟩ = some (.int .i64 n) := HD2.out.b3.c 1 rfl
  have r2 : (uz).cell? ⟨C3, 2, none⟩ = some (.slice sa sl.length sc) := HD2.out.b3.c 2 rfl
  have s0 : (uz).cell? ⟨C4, 0, none⟩ = some (.int .i64 m) := HD2.out.b2.c 0 rfl
  have s1 : (uz).cell? ⟨C4, 1, none⟩ = some (.int .i64 y) := HD2.out.b2.c 1 rfl
  have s2 : (uz).cell? ⟨C4, 2, none⟩ = some (.int .i64 z) := HD2.out.b2.c 2 rfl
  have s3 : (uz).cell? ⟨C4, 3, none⟩ = some (.int .i64 p) := HD2.out.b2.c 3 rfl
  have s4 : (uz).cell? ⟨C4, 4, none⟩ = some (.int .i64 d) := HD2.out.b2.c 4 rfl
  have s5 : (uz).cell? ⟨C4, 5, none⟩ = some (.int .i64 o) := HD2.out.b2.c 5 rfl
  have s6 : (uz).cell? ⟨C4, 6, none⟩ = some (.int .i64 g) := HD2.out.b2.c 6 rfl
  go_wp2_with fail
  refine bodyPost_ret (v := .tuple #[.agg #[.int .i64 u, .int .i64 n, .slice sa sl.length sc], .agg #[.int .i64 m, .int .i64 y, .int .i64 z, .int .i64 p, .int .i64 d, .int .i64 o, .int .i64 g], .bool false]) (by simp [results, Try.results48, go_sem, r0, r1, r2, s0, s1, s2, s3, s4, s5, s6]) rfl ?_
  exact ⟨_, _, _, _, _, _, _, _, _, _, _, _, _, rfl, HD2.out.k.grown (World.grownBy.refl _ _) (Nat.le_of_eq HCC.out.symm), HD2.out.l.s, HD2.out.l.ss.lt, HBR.out⟩

set_option maxRecDepth 100000 in
set_option maxHeartbeats 8000000 in
theorem heard_G (u n : Int) (sa : Option Addr) (sc : Nat) (sl : List Rg) (m y z p d o g : Int) (xk xf xn : Int) (xa : Option Addr) (xc : Nat) (xl : List Rg) (w : World) (h : RowOk w sa sc sl) (hs : ∀ b, bkA sa = some b → b < w.heap.size) (hsl : sl.length ≤ 1000) (hx : RgAt w xa xl) (hxl : xl.length ≤ 1000) (hrn : rnOk ⟨m, y, z, p, d, o, g⟩ = true) (hu0 : 0 ≤ u) (hun : u ≤ n) (hn9 : n ≤ 1000000000) (hxf0 : 0 ≤ xf) (hxf1 : xf ≤ 1000000000) (hA1 : u < xf) (hA2 : ¬ xf ≤ n) :
    Calls Try.prog 48 #[.agg #[.int .i64 u, .int .i64 n, .slice sa sl.length sc], .agg #[.int .i64 m, .int .i64 y, .int .i64 z, .int .i64 p, .int .i64 d, .int .i64 o, .int .i64 g], .agg #[.int .i64 xk, .int .i64 xf, .int .i64 xn, .slice xa xl.length xc]] w (HdPost w sa sc sl) := by
  have HX := Lib.hid (And.intro hx hxl)
  have HB0 := Lib.hid hsl
  have _ := And.intro hu0 (And.intro hun (And.intro hn9 (And.intro hxf0 hxf1)))
  have _ := hrn
  have hw : IntKind.i64.wrap (n - u) = n - u := IntWalk.i64_in _ (by omega)
  obtain ⟨C0, hC0⟩ : ∃ C, C = w.heap.size := ⟨_, rfl⟩
  obtain ⟨C1, hC1⟩ : ∃ C, C = w.heap.size + 1 := ⟨_, rfl⟩
  obtain ⟨C2, hC2⟩ : ∃ C, C = w.heap.size + 1 + 1 := ⟨_, rfl⟩
  obtain ⟨C3, hC3⟩ : ∃ C, C = w.heap.size + 1 + 1 + 1 := ⟨_, rfl⟩
  obtain ⟨C4, hC4⟩ : ∃ C, C = w.heap.size + 1 + 1 + 1 + 1 := ⟨_, rfl⟩
  have k := ((((((Sw.start (LwAt.board w h hs) (Nat.le_refl _)).new 50 #[.int .i64 u, .int .i64 n, .slice sa sl.length sc]).new 48 #[.int .i64 m, .int .i64 y, .int .i64 z, .int .i64 p, .int .i64 d, .int .i64 o, .int .i64 g]).new 33 #[.int .i64 xk, .int .i64 xf, .int .i64 xn, .slice xa xl.length xc]).new 50 #[.int .i64 0, .int .i64 0, .slice none 0 0]).new 48 #[.int .i64 0, .int .i64 0, .int .i64 0, .int .i64 0, .int .i64 0, .int .i64 0, .int .i64 0])
  simp only [World.size_alloc] at k
  rw [← hC4, ← hC3, ← hC2, ← hC1, ← hC0] at k
  have H0 := Lib.hid k
  clear k h hs
  go_enter Try.func48, Try.ntmps48
  go_upto_region 1 with fail
  try simp only [World.size_alloc]
  try rw [← hC4]
  try rw [← hC3]
  try rw [← hC2]
  try rw [← hC1]
  try rw [← hC0]
  have HCC := Lib.hid hC0
  clear hC0 hC1 hC2 hC3 hC4
  generalize (((((w.alloc (.cells #[.int .i64 u, .int .i64 n, .slice sa sl.length sc] 50)).alloc (.cells #[.int .i64 m, .int .i64 y, .int .i64 z, .int .i64 p, .int .i64 d, .int .i64 o, .int .i64 g] 48)).alloc (.cells #[.int .i64 xk, .int .i64 xf, .int .i64 xn, .slice xa xl.length xc] 33)).alloc (.cells #[.int .i64 0, .int .i64 0, .slice none 0 0] 50)).alloc (.cells #[.int .i64 0, .int .i64 0, .int .i64 0, .int .i64 0, .int .i64 0, .int .i64 0, .int .i64 0] 48)) = W0 at *
  have c0 : (W0).cell? ⟨C1, 0, none⟩ = some (.int .i64 m) := H0.out.b3.c 0 rfl
  have c1 : (W0).cell? ⟨C1, 1, none⟩ = some (.int .i64 y) := H0.out.b3.c 1 rfl
  have c2 : (W0).cell? ⟨C1, 2, none⟩ = some (.int .i64 z) := H0.out.b3.c 2 rfl
  have c3 : (W0).cell? ⟨C1, 3, none⟩ = some (.int .i64 p) := H0.out.b3.c 3 rfl
  have c4 : (W0).cell? ⟨C1, 4, none⟩ = some (.int .i64 d) := H0.out.b3.c 4 rfl
  have c5 : (W0).cell? ⟨C1, 5, none⟩ = some (.int .i64 o) := H0.out.b3.c 5 rfl
  have c6 : (W0).cell? ⟨C1, 6, none⟩ = some (.int .i64 g) := H0.out.b3.c 6 rfl
  have H1 := Lib.hid (H0.out.new 48 #[.int .i64 m, .int .i64 y, .int .i64 z, .int .i64 p, .int .i64 d, .int .i64 o, .int .i64 g])
  go_upto_region 2 with fail
  clear H0 c0 c1 c2 c3 c4 c5 c6
  generalize W0.alloc (.cells #[.int .i64 m, .int .i64 y, .int .i64 z, .int .i64 p, .int .i64 d, .int .i64 o, .int .i64 g] 48) = W1 at *
  generalize W0.heap.size = C5 at *
  have x1 : (W1).cell? ⟨C2, 1, none⟩ = some (.int .i64 xf) := H1.out.b3.c 1 rfl
  have c0 : (W1).cell? ⟨C0, 0, none⟩ = some (.int .i64 u) := H1.out.b5.c 0 rfl
  have c1 : (W1).cell? ⟨C0, 1, none⟩ = some (.int .i64 n) := H1.out.b5.c 1 rfl
  have H2 := Lib.hid (H1.out.new 90 #[.int .i64 2, .int .i64 0, .int .i64 xf, .int .i64 (n - u), .int .i64 n])
  go_upto_region 3 with fail
  clear H1 x1 c0 c1
  generalize W1.alloc (.cells #[.int .i64 2, .int .i64 0, .int .i64 xf, .int .i64 (n - u), .int .i64 n] 90) = W2 at *
  generalize W1.heap.size = C6 at *
  have x1 : (W2).cell? ⟨C2, 1, none⟩ = some (.int .i64 xf) := H2.out.b4.c 1 rfl
  have c0 : (W2).cell? ⟨C0, 0, none⟩ = some (.int .i64 u) := H2.out.b6.c 0 rfl
  have c1 : (W2).cell? ⟨C0, 1, none⟩ = some (.int .i64 n) := H2.out.b6.c 1 rfl
  have HBR := Lib.hid (show BrN w sa sc sl sa sc sl from ⟨HB0.out, .inl ⟨rfl, rfl, rfl⟩⟩)
  have hB1 : ¬ xf = u := by omega
  go_upto_region 8 with fail
  clear x1 c0 c1
  refine wp_region_held_drew (S := fun w' => w'.cell? ⟨C0, 0, none⟩ = some (.int .i64 u) ∧ w'.cell? ⟨C0, 1, none⟩ = some (.int .i64 n) ∧ w'.cell? ⟨C0, 2, none⟩ = some (.slice sa sl.length sc) ∧ w'.cell? ⟨C1, 0, none⟩ = some (.int .i64 m) ∧ w'.cell? ⟨C1, 1, none⟩ = some (.int .i64 y) ∧ w'.cell? ⟨C1, 2, none⟩ = some (.int .i64 z) ∧ w'.cell? ⟨C1, 3, none⟩ = some (.int .i64 p) ∧ w'.cell? ⟨C1, 4, none⟩ = some (.int .i64 d) ∧ w'.cell? ⟨C1, 5, none⟩ = some (.int .i64 o) ∧ w'.cell? ⟨C1, 6, none⟩ = some (.int .i64 g)) (by kernel_rfl) (by have hd := H2.out.keep (grownBy_drew (r := none)); exact ⟨(hd).b6.c 0 rfl, (hd).b6.c 1 rfl, (hd).b6.c 2 rfl, (hd).b5.c 0 rfl, (hd).b5.c 1 rfl, (hd).b5.c 2 rfl, (hd).b5.c 3 rfl, (hd).b5.c 4 rfl, (hd).b5.c 5 rfl, (hd).b5.c 6 rfl⟩) (fun hS => ?_)
  have HD0 := Lib.hid (H2.out.keep (grownBy_drew (r := none)))
  refine wpAnyH_take (i := 0) (v := ?_) rfl (by kernel_rfl) (by kernel_rfl) (by kernel_rfl) (fun _ _ _ h => h) (Or.inl ⟨by kernel_rfl, ?_⟩) hS ?_
  rotate_left
  · intro w' hSw
    obtain ⟨g0, g1, g2, g3, g4, g5, g6, g7, g8, g9⟩ := hSw
    first | (go_simp; done) | (go_simp; with_reducible rfl)
  simp only [List.getElem_toArray, List.getElem_cons_zero, Act.put, List.setIfInBounds_toArray, List.set_cons_zero, List.set_cons_succ]
  refine wpAnyH_take (i := 1) (v := ?_) rfl (by kernel_rfl) (by kernel_rfl) (by kernel_rfl) (fun _ _ _ h => h) (Or.inl ⟨by kernel_rfl, ?_⟩) hS ?_
  rotate_left
  · intro w' hSw
    obtain ⟨g0, g1, g2, g3, g4, g5, g6, g7, g8, g9⟩ := hSw
    first | (go_simp; done) | (go_simp; with_reducible rfl)
  simp only [List.getElem_toArray, List.getElem_cons_zero, List.getElem_cons_succ, Act.put, List.setIfInBounds_toArray, List.set_cons_zero, List.set_cons_succ]
  refine wpAnyH_ready (rs := [2]) (by kernel_rfl) (List.cons_ne_nil _ _) ?_
  refine AllReadyH.cons rfl (fun K hK => ?_) AllReadyH.nil
  generalize W2.drew = Wd at *
  have zz0 : (Wd).cell? ⟨C3, 0, none⟩ = some (.int .i64 0) := HD0.out.b3.c 0 rfl
  have zz1 : (Wd).cell? ⟨C3, 1, none⟩ = some (.int .i64 0) := HD0.out.b3.c 1 rfl
  have zz2 : (Wd).cell? ⟨C3, 2, none⟩ = some (.slice none 0 0) := HD0.out.b3.c 2 rfl
  have f0 := HD0.out.b3.f 0
  have f1 := HD0.out.b3.f 1
  have f2 := HD0.out.b3.f 2
  have lr := HD0.out.b3.lt
  go_simp
  have k18_0 : Sw w C0 [] [(C6, 90, #[.int .i64 2, .int .i64 0, .int .i64 xf, .int .i64 (n - u), .int .i64 n]), (C5, 48, #[.int .i64 m, .int .i64 y, .int .i64 z, .int .i64 p, .int .i64 d, .int .i64 o, .int .i64 g]), (C4, 48, #[.int .i64 0, .int .i64 0, .int .i64 0, .int .i64 0, .int .i64 0, .int .i64 0, .int .i64 0]), (C3, 50, #[.int .i64 u, .int .i64 0, .slice none 0 0]), (C2, 33, #[.int .i64 xk, .int .i64 xf, .int .i64 xn, .slice xa xl.length xc]), (C1, 48, #[.int .i64 m, .int .i64 y, .int .i64 z, .int .i64 p, .int .i64 d, .int .i64 o, .int .i64 g]), (C0, 50, #[.int .i64 u, .int .i64 n, .slice sa sl.length sc])] sa sc sl none 0 [] none 0 [] none 0 [] none 0 [] (Wd.setCell ⟨C3, 0, none⟩ (.int .i64 u)) := HD0.out.p3 0 (.int .i64 u)
  have k18_1 : Sw w C0 [] [(C6, 90, #[.int .i64 2, .int .i64 0, .int .i64 xf, .int .i64 (n - u), .int .i64 n]), (C5, 48, #[.int .i64 m, .int .i64 y, .int .i64 z, .int .i64 p, .int .i64 d, .int .i64 o, .int .i64 g]), (C4, 48, #[.int .i64 0, .int .i64 0, .int .i64 0, .int .i64 0, .int .i64 0, .int .i64 0, .int .i64 0]), (C3, 50, #[.int .i64 u, .int .i64 n, .slice none 0 0]), (C2, 33, #[.int .i64 xk, .int .i64 xf, .int .i64 xn, .slice xa xl.length xc]), (C1, 48, #[.int .i64 m, .int .i64 y, .int .i64 z, .int .i64 p, .int .i64 d, .int .i64 o, .int .i64 g]), (C0, 50, #[.int .i64 u, .int .i64 n, .slice sa sl.length sc])] sa sc sl none 0 [] none 0 [] none 0 [] none 0 [] ((Wd.setCell ⟨C3, 0, none⟩ (.int .i64 u)).setCell ⟨C3, 1, none⟩ (.int .i64 n)) := k18_0.p3 1 (.int .i64 n)
  have k18_2 : Sw w C0 [] [(C6, 90, #[.int .i64 2, .int .i64 0, .int .i64 xf, .int .i64 (n - u), .int .i64 n]), (C5, 48, #[.int .i64 m, .int .i64 y, .int .i64 z, .int .i64 p, .int .i64 d, .int .i64 o, .int .i64 g]), (C4, 48, #[.int .i64 0, .int .i64 0, .int .i64 0, .int .i64 0, .int .i64 0, .int .i64 0, .int .i64 0]), (C3, 50, #[.int .i64 u, .int .i64 n, .slice sa sl.length sc]), (C2, 33, #[.int .i64 xk, .int .i64 xf, .int .i64 xn, .slice xa xl.length xc]), (C1, 48, #[.int .i64 m, .int .i64 y, .int .i64 z, .int .i64 p, .int .i64 d, .int .i64 o, .int .i64 g]), (C0, 50, #[.int .i64 u, .int .i64 n, .slice sa sl.length sc])] sa sc sl none 0 [] none 0 [] none 0 [] none 0 [] (((Wd.setCell ⟨C3, 0, none⟩ (.int .i64 u)).setCell ⟨C3, 1, none⟩ (.int .i64 n)).setCell ⟨C3, 2, none⟩ (.slice sa sl.length sc)) := k18_1.p3 2 (.slice sa sl.length sc)
  refine gen_wr (P := fun V => Sw w C0 [] [(C6, 90, #[.int .i64 2, .int .i64 0, .int .i64 xf, .int .i64 (n - u), .int .i64 n]), (C5, 48, #[.int .i64 m, .int .i64 y, .int .i64 z, .int .i64 p, .int .i64 d, .int .i64 o, .int .i64 g]), (C4, 48, #[.int .i64 0, .int .i64 0, .int .i64 0, .int .i64 0, .int .i64 0, .int .i64 0, .int .i64 0]), (C3, 50, #[.int .i64 u, .int .i64 n, .slice sa sl.length sc]), (C2, 33, #[.int .i64 xk, .int .i64 xf, .int .i64 xn, .slice xa xl.length xc]), (C1, 48, #[.int .i64 m, .int .i64 y, .int .i64 z, .int .i64 p, .int .i64 d, .int .i64 o, .int .i64 g]), (C0, 50, #[.int .i64 u, .int .i64 n, .slice sa sl.length sc])] sa sc sl none 0 [] none 0 [] none 0 [] none 0 [] V) k18_2 (fun uy hz => ?_)
  clear lr zz0 f0 zz1 f1 zz2 f2 k18_0 k18_1 k18_2
  have HD1 := Lib.hid hz
  clear hz
  refine hK.out _ _ (⟨(HD1.out).b6.c 0 rfl, (HD1.out).b6.c 1 rfl, (HD1.out).b6.c 2 rfl, (HD1.out).b5.c 0 rfl, (HD1.out).b5.c 1 rfl, (HD1.out).b5.c 2 rfl, (HD1.out).b5.c 3 rfl, (HD1.out).b5.c 4 rfl, (HD1.out).b5.c 5 rfl, (HD1.out).b5.c 6 rfl⟩) (fun hS => ?_)
  clear hK
  try simp only [List.getElem_toArray, List.getElem_cons_zero, List.getElem_cons_succ, Act.put, List.setIfInBounds_toArray, List.set_cons_zero, List.set_cons_succ]
  refine wpAnyH_ready (rs := [3]) (by kernel_rfl) (List.cons_ne_nil _ _) ?_
  refine AllReadyH.cons rfl (fun K hK => ?_) AllReadyH.nil
  have zz0 : (uy).cell? ⟨C4, 0, none⟩ = some (.int .i64 0) := HD1.out.b2.c 0 rfl
  have zz1 : (uy).cell? ⟨C4, 1, none⟩ = some (.int .i64 0) := HD1.out.b2.c 1 rfl
  have zz2 : (uy).cell? ⟨C4, 2, none⟩ = some (.int .i64 0) := HD1.out.b2.c 2 rfl
  have zz3 : (uy).cell? ⟨C4, 3, none⟩ = some (.int .i64 0) := HD1.out.b2.c 3 rfl
  have zz4 : (uy).cell? ⟨C4, 4, none⟩ = some (.int .i64 0) := HD1.out.b2.c 4 rfl
  have zz5 : (uy).cell? ⟨C4, 5, none⟩ = some (.int .i64 0) := HD1.out.b2.c 5 rfl
  have zz6 : (uy).cell? ⟨C4, 6, none⟩ = some (.int .i64 0) := HD1.out.b2.c 6 rfl
  have f0 := HD1.out.b2.f 0
  have f1 := HD1.out.b2.f 1
  have f2 := HD1.out.b2.f 2
  have f3 := HD1.out.b2.f 3
  have f4 := HD1.out.b2.f 4
  have f5 := HD1.out.b2.f 5
  have f6 := HD1.out.b2.f 6
  have lr := HD1.out.b2.lt
  go_simp
  have k19_0 : Sw w C0 [] [(C6, 90, #[.int .i64 2, .int .i64 0, .int .i64 xf, .int .i64 (n - u), .int .i64 n]), (C5, 48, #[.int .i64 m, .int .i64 y, .int .i64 z, .int .i64 p, .int .i64 d, .int .i64 o, .int .i64 g]), (C4, 48, #[.int .i64 m, .int .i64 0, .int .i64 0, .int .i64 0, .int .i64 0, .int .i64 0, .int .i64 0]), (C3, 50, #[.int .i64 u, .int .i64 n, .slice sa sl.length sc]), (C2, 33, #[.int .i64 xk, .int .i64 xf, .int .i64 xn, .slice xa xl.length xc]), (C1, 48, #[.int .i64 m, .int .i64 y, .int .i64 z, .int .i64 p, .int .i64 d, .int .i64 o, .int .i64 g]), (C0, 50, #[.int .i64 u, .int .i64 n, .slice sa sl.length sc])] sa sc sl none 0 [] none 0 [] none 0 [] none 0 [] (uy.setCell ⟨C4, 0, none⟩ (.int .i64 m)) := HD1.out.p2 0 (.int .i64 m)
  have k19_1 : Sw w C0 [] [(C6, 90, #[.int .i64 2, .int .i64 0, .int .i64 xf, .int .i64 (n - u), .int .i64 n]), (C5, 48, #[.int .i64 m, .int .i64 y, .int .i64 z, .int .i64 p, .int .i64 d, .int .i64 o, .int .i64 g]), (C4, 48, #[.int .i64 m, .int .i64 y, .int .i64 0, .int .i64 0, .int .i64 0, .int .i64 0, .int .i64 0]), (C3, 50, #[.int .i64 u, .int .i64 n, .slice sa sl.length sc]), (C2, 33, #[.int .i64 xk, .int .i64 xf, .int .i64 xn, .slice xa xl.length xc]), (C1, 48, #[.int .i64 m, .int .i64 y, .int .i64 z, .int .i64 p, .int .i64 d, .int .i64 o, .int .i64 g]), (C0, 50, #[.int .i64 u, .int .i64 n, .slice sa sl.length sc])] sa sc sl none 0 [] none 0 [] none 0 [] none 0 [] ((uy.setCell ⟨C4, 0, none⟩ (.int .i64 m)).setCell ⟨C4, 1, none⟩ (.int .i64 y)) := k19_0.p2 1 (.int .i64 y)
  have k19_2 : Sw w C0 [] [(C6, 90, #[.int .i64 2, .int .i64 0, .int .i64 xf, .int .i64 (n - u), .int .i64 n]), (C5, 48, #[.int .i64 m, .int .i64 y, .int .i64 z, .int .i64 p, .int .i64 d, .int .i64 o, .int .i64 g]), (C4, 48, #[.int .i64 m, .int .i64 y, .int .i64 z, .int .i64 0, .int .i64 0, .int .i64 0, .int .i64 0]), (C3, 50, #[.int .i64 u, .int .i64 n, .slice sa sl.length sc]), (C2, 33, #[.int .i64 xk, .int .i64 xf, .int .i64 xn, .slice xa xl.length xc]), (C1, 48, #[.int .i64 m, .int .i64 y, .int .i64 z, .int .i64 p, .int .i64 d, .int .i64 o, .int .i64 g]), (C0, 50, #[.int .i64 u, .int .i64 n, .slice sa sl.length sc])] sa sc sl none 0 [] none 0 [] none 0 [] none 0 [] (((uy.setCell ⟨C4, 0, none⟩ (.int .i64 m)).setCell ⟨C4, 1, none⟩ (.int .i64 y)).setCell ⟨C4, 2, none⟩ (.int .i64 z)) := k19_1.p2 2 (.int .i64 z)
  have k19_3 : Sw w C0 [] [(C6, 90, #[.int .i64 2, .int .i64 0, .int .i64 xf, .int .i64 (n - u), .int .i64 n]), (C5, 48, #[.int .i64 m, .int .i64 y, .int .i64 z, .int .i64 p, .int .i64 d, .int .i64 o, .int .i64 g]), (C4, 48, #[.int .i64 m, .int .i64 y, .int .i64 z, .int .i64 p, .int .i64 0, .int .i64 0, .int .i64 0]), (C3, 50, #[.int .i64 u, .int .i64 n, .slice sa sl.length sc]), (C2, 33, #[.int .i64 xk, .int .i64 xf, .int .i64 xn, .slice xa xl.length xc]), (C1, 48, #[.int .i64 m, .int .i64 y, .int .i64 z, .int .i64 p, .int .i64 d, .int .i64 o, .int .i64 g]), (C0, 50, #[.int .i64 u, .int .i64 n, .slice sa sl.length sc])] sa sc sl none 0 [] none 0 [] none 0 [] none 0 [] ((((uy.setCell ⟨C4, 0, none⟩ (.int .i64 m)).setCell ⟨C4, 1, none⟩ (.int .i64 y)).setCell ⟨C4, 2, none⟩ (.int .i64 z)).setCell ⟨C4, 3, none⟩ (.int .i64 p)) := k19_2.p2 3 (.int .i64 p)
  have k19_4 : Sw w C0 [] [(C6, 90, #[.int .i64 2, .int .i64 0, .int .i64 xf, .int .i64 (n - u), .int .i64 n]), (C5, 48, #[.int .i64 m, .int .i64 y, .int .i64 z, .int .i64 p, .int .i64 d, .int .i64 o, .int .i64 g]), (C4, 48, #[.int .i64 m, .int .i64 y, .int .i64 z, .int .i64 p, .int .i64 d, .int .i64 0, .int .i64 0]), (C3, 50, #[.int .i64 u, .int .i64 n, .slice sa sl.length sc]), (C2, 33, #[.int .i64 xk, .int .i64 xf, .int .i64 xn, .slice xa xl.length xc]), (C1, 48, #[.int .i64 m, .int .i64 y, .int .i64 z, .int .i64 p, .int .i64 d, .int .i64 o, .int .i64 g]), (C0, 50, #[.int .i64 u, .int .i64 n, .slice sa sl.length sc])] sa sc sl none 0 [] none 0 [] none 0 [] none 0 [] (((((uy.setCell ⟨C4, 0, none⟩ (.int .i64 m)).setCell ⟨C4, 1, none⟩ (.int .i64 y)).setCell ⟨C4, 2, none⟩ (.int .i64 z)).setCell ⟨C4, 3, none⟩ (.int .i64 p)).setCell ⟨C4, 4, none⟩ (.int .i64 d)) := k19_3.p2 4 (.int .i64 d)
  have k19_5 : Sw w C0 [] [(C6, 90, #[.int .i64 2, .int .i64 0, .int .i64 xf, .int .i64 (n - u), .int .i64 n]), (C5, 48, #[.int .i64 m, .int .i64 y, .int .i64 z, .int .i64 p, .int .i64 d, .int .i64 o, .int .i64 g]), (C4, 48, #[.int .i64 m, .int .i64 y, .int .i64 z, .int .i64 p, .int .i64 d, .int .i64 o, .int .i64 0]), (C3, 50, #[.int .i64 u, .int .i64 n, .slice sa sl.length sc]), (C2, 33, #[.int .i64 xk, .int .i64 xf, .int .i64 xn, .slice xa xl.length xc]), (C1, 48, #[.int .i64 m, .int .i64 y, .int .i64 z, .int .i64 p, .int .i64 d, .int .i64 o, .int .i64 g]), (C0, 50, #[.int .i64 u, .int .i64 n, .slice sa sl.length sc])] sa sc sl none 0 [] none 0 [] none 0 [] none 0 [] ((((((uy.setCell ⟨C4, 0, none⟩ (.int .i64 m)).setCell ⟨C4, 1, none⟩ (.int .i64 y)).setCell ⟨C4, 2, none⟩ (.int .i64 z)).setCell ⟨C4, 3, none⟩ (.int .i64 p)).setCell ⟨C4, 4, none⟩ (.int .i64 d)).setCell ⟨C4, 5, none⟩ (.int .i64 o)) := k19_4.p2 5 (.int .i64 o)
  have k19_6 : Sw w C0 [] [(C6, 90, #[.int .i64 2, .int .i64 0, .int .i64 xf, .int .i64 (n - u), .int .i64 n]), (C5, 48, #[.int .i64 m, .int .i64 y, .int .i64 z, .int .i64 p, .int .i64 d, .int .i64 o, .int .i64 g]), (C4, 48, #[.int .i64 m, .int .i64 y, .int .i64 z, .int .i64 p, .int .i64 d, .int .i64 o, .int .i64 g]), (C3, 50, #[.int .i64 u, .int .i64 n, .slice sa sl.length sc]), (C2, 33, #[.int .i64 xk, .int .i64 xf, .int .i64 xn, .slice xa xl.length xc]), (C1, 48, #[.int .i64 m, .int .i64 y, .int .i64 z, .int .i64 p, .int .i64 d, .int .i64 o, .int .i64 g]), (C0, 50, #[.int .i64 u, .int .i64 n, .slice sa sl.length sc])] sa sc sl none 0 [] none 0 [] none 0 [] none 0 [] (((((((uy.setCell ⟨C4, 0, none⟩ (.int .i64 m)).setCell ⟨C4, 1, none⟩ (.int .i64 y)).setCell ⟨C4, 2, none⟩ (.int .i64 z)).setCell ⟨C4, 3, none⟩ (.int .i64 p)).setCell ⟨C4, 4, none⟩ (.int .i64 d)).setCell ⟨C4, 5, none⟩ (.int .i64 o)).setCell ⟨C4, 6, none⟩ (.int .i64 g)) := k19_5.p2 6 (.int .i64 g)
  refine gen_wr (P := fun V => Sw w C0 [] [(C6, 90, #[.int .i64 2, .int .i64 0, .int .i64 xf, .int .i64 (n - u), .int .i64 n]), (C5, 48, #[.int .i64 m, .int .i64 y, .int .i64 z, .int .i64 p, .int .i64 d, .int .i64 o, .int .i64 g]), (C4, 48, #[.int .i64 m, .int .i64 y, .int .i64 z, .int .i64 p, .int .i64 d, .int .i64 o, .int .i64 g]), (C3, 50, #[.int .i64 u, .int .i64 n, .slice sa sl.length sc]), (C2, 33, #[.int .i64 xk, .int .i64 xf, .int .i64 xn, .slice xa xl.length xc]), (C1, 48, #[.int .i64 m, .int .i64 y, .int .i64 z, .int .i64 p, .int .i64 d, .int .i64 o, .int .i64 g]), (C0, 50, #[.int .i64 u, .int .i64 n, .slice sa sl.length sc])] sa sc sl none 0 [] none 0 [] none 0 [] none 0 [] V) k19_6 (fun uz hz => ?_)
  clear lr zz0 f0 zz1 f1 zz2 f2 zz3 f3 zz4 f4 zz5 f5 zz6 f6 k19_0 k19_1 k19_2 k19_3 k19_4 k19_5 k19_6
  have HD2 := Lib.hid hz
  clear hz
  refine hK.out _ _ (⟨(HD2.out).b6.c 0 rfl, (HD2.out).b6.c 1 rfl, (HD2.out).b6.c 2 rfl, (HD2.out).b5.c 0 rfl, (HD2.out).b5.c 1 rfl, (HD2.out).b5.c 2 rfl, (HD2.out).b5.c 3 rfl, (HD2.out).b5.c 4 rfl, (HD2.out).b5.c 5 rfl, (HD2.out).b5.c 6 rfl⟩) (fun hS => ?_)
  clear hK
  try simp only [List.getElem_toArray, List.getElem_cons_zero, List.getElem_cons_succ, Act.put, List.setIfInBounds_toArray, List.set_cons_zero, List.set_cons_succ]
  refine wpAnyH_take (i := 4) (v := ?_) rfl (by kernel_rfl) (by kernel_rfl) (by kernel_rfl) (fun _ _ _ h => h) (Or.inl ⟨by kernel_rfl, ?_⟩) hS ?_
  rotate_left
  · intro w' hSw
    obtain ⟨g0, g1, g2, g3, g4, g5, g6, g7, g8, g9⟩ := hSw
    first | (go_simp; done) | (go_simp; with_reducible rfl)
  simp only [List.getElem_toArray, List.getElem_cons_zero, List.getElem_cons_succ, Act.put, List.setIfInBounds_toArray, List.set_cons_zero, List.set_cons_succ]
  refine wpAnyH_done (by kernel_rfl) ?_ _
  have r0 : (uz).cell? ⟨C3, 0, none⟩ = some (.int .i64 u) := HD2.out.b3.c 0 rfl
  have r1 : (uz).cell? ⟨C3, 1, none⟩ = some (.int .i64 n) := HD2.out.b3.c 1 rfl
  have r2 : (uz).cell? ⟨C3, 2, none⟩ = some (.slice sa sl.length sc) := HD2.out.b3.c 2 rfl
  have s0 : (uz).cell? ⟨C4, 0, none⟩ = some (.int .i64 m) := HD2.out.b2.c 0 rfl
  have s1 : (uz).cell? ⟨C4, 1, none⟩ = some (.int .i64 y) := HD2.out.b2.c 1 rfl
  have s2 : (uz).cell? ⟨C4, 2, none⟩ = some (.int .i64 z) := HD2.out.b2.c 2 rfl
  have s3 : (uz).cell? ⟨C4, 3, none⟩ = some (.int .i64 p) := HD2.out.b2.c 3 rfl
  have s4 : (uz).cell? ⟨C4, 4, none⟩ = some (.int .i64 d) := HD2.out.b2.c 4 rfl
  have s5 : (uz).cell? ⟨C4, 5, none⟩ = some (.int .i64 o) := HD2.out.b2.c 5 rfl
  have s6 : (uz).cell? ⟨C4, 6, none⟩ = some (.int .i64 g) := HD2.out.b2.c 6 rfl
  go_wp2_with fail
  refine bodyPost_ret (v := .tuple #[.agg #[.int .i64 u, .int .i64 n, .slice sa sl.length sc], .agg #[.int .i64 m, .int .i64 y, .int .i64 z, .int .i64 p, .int .i64 d, .int .i64 o, .int .i64 g], .bool false]) (by simp [results, Try.results48, go_sem, r0, r1, r2, s0, s1, s2, s3, s4, s5, s6]) rfl ?_
  exact ⟨_, _, _, _, _, _, _, _, _, _, _, _, _, rfl, HD2.out.k.grown (World.grownBy.refl _ _) (Nat.le_of_eq HCC.out.symm), HD2.out.l.s, HD2.out.l.ss.lt, HBR.out⟩

theorem heard_S (u n : Int) (sa : Option Addr) (sc : Nat) (sl : List Rg) (m y z p d o g : Int) (xk xf xn : Int) (xa : Option Addr) (xc : Nat) (xl : List Rg) (w : World) (h : RowOk w sa sc sl) (hs : ∀ b, bkA sa = some b → b < w.heap.size) (hsl : sl.length ≤ 1000) (hx : RgAt w xa xl) (hxl : xl.length ≤ 1000) (hrn : rnOk ⟨m, y, z, p, d, o, g⟩ = true) (hu0 : 0 ≤ u) (hun : u ≤ n) (hn9 : n ≤ 1000000000) (hxf0 : 0 ≤ xf) (hxf1 : xf ≤ 1000000000) :
    Calls Try.prog 48 #[.agg #[.int .i64 u, .int .i64 n, .slice sa sl.length sc], .agg #[.int .i64 m, .int .i64 y, .int .i64 z, .int .i64 p, .int .i64 d, .int .i64 o, .int .i64 g], .agg #[.int .i64 xk, .int .i64 xf, .int .i64 xn, .slice xa xl.length xc]] w (HdPost w sa sc sl) := by
  by_cases hA1 : u < xf
  · by_cases hA2 : xf ≤ n
    · exact heard_A u n sa sc sl m y z p d o g xk xf xn xa xc xl w h hs hsl hx hxl hrn hu0 hun hn9 hxf0 hxf1 hA1 hA2
    · exact heard_G u n sa sc sl m y z p d o g xk xf xn xa xc xl w h hs hsl hx hxl hrn hu0 hun hn9 hxf0 hxf1 hA1 hA2
  · by_cases hB1 : xf = u
    · by_cases hB2 : n = u
      · exact heard_E u n sa sc sl m y z p d o g xk xf xn xa xc xl w h hs hsl hx hxl hrn hu0 hun hn9 hxf0 hxf1 hA1 hB1 hB2
      · exact heard_D u n sa sc sl m y z p d o g xk xf xn xa xc xl w h hs hsl hx hxl hrn hu0 hun hn9 hxf0 hxf1 hA1 hB1 hB2
    · exact heard_F u n sa sc sl m y z p d o g xk xf xn xa xc xl w h hs hsl hx hxl hrn hu0 hun hn9 hxf0 hxf1 hA1 hB1

end Go.Proofs.Ytedhemllgpbheaa

