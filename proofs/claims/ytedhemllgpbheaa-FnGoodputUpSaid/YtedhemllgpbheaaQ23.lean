/- Wm -/
import Derived.Test.YtedhemllgpbheaaQ20
import Derived.Test.YtedhemllgpbheaaQ22
namespace Go.Proofs.Ytedhemllgpbheaa
open Go.RowKit
open P7 (Pk PkAt pksV)

/-- A world as a value. -/
structure Wv where
  (t : Int)
  (m : Int)
  (y : Int)
  (z : Int)
  (p : Int)
  (d : Int)
  (o : Int)
  (g : Int)
  (u : Int)
  (n : Int)
  (sa : Option Addr)
  (sc : Nat)
  (sl : List Rg)
  (ga : Option Addr)
  (gc : Nat)
  (gl : List Pk)
  (da : Option Addr)
  (dc : Nat)
  (dl : List Rg)
  (ua : Option Addr)
  (uc : Nat)
  (ul : List Nt)
  (na : Option Addr)
  (nc : Nat)
  (nl : List Nt)
def Wv.v (V : Wv) : Value := .agg #[.int .i64 V.t, .int .i64 V.m, .int .i64 V.y, .int .i64 V.z, .int .i64 V.p, .int .i64 V.d, .int .i64 V.o, .int .i64 V.g, .int .i64 V.u, .int .i64 V.n, .slice V.sa V.sl.length V.sc, .slice V.ga V.gl.length V.gc, .slice V.da V.dl.length V.dc, .slice V.ua V.ul.length V.uc, .slice V.na V.nl.length V.nc]
def Wv.At (V : Wv) (W : World) (B : Nat) (X : List Nat) : Prop := LwAt W B X V.sa V.sc V.sl V.ga V.gc V.gl V.da V.dc V.dl V.ua V.uc V.ul V.na V.nc V.nl
def Wv.le (V : Wv) (kd ku kn : Nat) : Prop := V.sl.length ≤ 1000 ∧ V.gl.length ≤ 1000 ∧ V.dl.length ≤ kd ∧ V.ul.length ≤ ku ∧ V.nl.length ≤ kn ∧ (∀ x ∈ V.ul, x.l.length ≤ 3) ∧ ∀ x ∈ V.nl, x.l.length ≤ 3
def WPost2 (w : World) (B : Nat) (X : List Nat) (kd ku kn : Nat) (e : Ending) (w' : World) : Prop := ∃ (V : Wv) (k : Int), e = .returned (.tuple #[V.v, .int .i64 k]) ∧ V.At w' B X ∧ Kx B X w w' ∧ V.le kd ku kn
def WPost (w : World) (B : Nat) (X : List Nat) (kd ku kn : Nat) (e : Ending) (w' : World) : Prop := ∃ V : Wv, e = .returned V.v ∧ V.At w' B X ∧ Kx B X w w' ∧ V.le kd ku kn

theorem LwAt.dropL {W : World} {B : Nat} {X : List Nat} {sa : Option Addr} {sc : Nat} {sl : List Rg} {ga : Option Addr} {gc : Nat} {gl : List Pk} {da : Option Addr} {dc : Nat} {dl : List Rg} {ua : Option Addr} {uc : Nat} {ul : List Nt} {na : Option Addr} {nc : Nat} {nl : List Nt} : ∀ (L : List Nat), LwAt W B (L ++ X) sa sc sl ga gc gl da dc dl ua uc ul na nc nl → LwAt W B X sa sc sl ga gc gl da dc dl ua uc ul na nc nl
  | [], h => h
  | _ :: L, h => LwAt.dropL L (LwAt.drop h)

/-- Its boxes, the rows, what stays. -/
structure Sw (w : World) (B : Nat) (X : List Nat) (bs : List (Nat × TypeId × Array Value)) (sa : Option Addr) (sc : Nat) (sl : List Rg) (ga : Option Addr) (gc : Nat) (gl : List Pk) (da : Option Addr) (dc : Nat) (dl : List Rg) (ua : Option Addr) (uc : Nat) (ul : List Nt) (na : Option Addr) (nc : Nat) (nl : List Nt) (W : World) : Prop where
  b : ∀ x ∈ bs, Bx W x.1 x.2.1 x.2.2
  l : LwAt W B (bs.map (·.1) ++ X) sa sc sl ga gc gl da dc dl ua uc ul na nc nl
  k : Kx B X w W
  lo : ∀ x ∈ bs, w.heap.size ≤ x.1
  nd : (bs.map (·.1)).Nodup
  hB : B ≤ w.heap.size
  hX : ∀ b ∈ X, b < w.heap.size

section
variable {w W W' : World} {B : Nat} {X : List Nat} {bs : List (Nat × TypeId × Array Value)} {sa : Option Addr} {sc : Nat} {sl : List Rg} {ga : Option Addr} {gc : Nat} {gl : List Pk} {da : Option Addr} {dc : Nat} {dl : List Rg} {ua : Option Addr} {uc : Nat} {ul : List Nt} {na : Option Addr} {nc : Nat} {nl : List Nt}
theorem Sw.start (h : LwAt w B X sa sc sl ga gc gl da dc dl ua uc ul na nc nl) (hB : B ≤ w.heap.size) : Sw w B X [] sa sc sl ga gc gl da dc dl ua uc ul na nc nl w := ⟨by simp, by simpa using h, Kx.refl _ _ _, by simp, by simp, hB, h.xl⟩
theorem Sw.keep (h : Sw w B X bs sa sc sl ga gc gl da dc dl ua uc ul na nc nl W) (hg : W.grownBy W' none) : Sw w B X bs sa sc sl ga gc gl da dc dl ua uc ul na nc nl W' := ⟨fun x hx => (h.b x hx).keep hg, h.l.kept hg, h.k.kept hg, h.lo, h.nd, h.hB, h.hX⟩
theorem Sw.new (h : Sw w B X bs sa sc sl ga gc gl da dc dl ua uc ul na nc nl W) (T : TypeId) (xs : Array Value) : Sw w B X ((W.heap.size, T, xs) :: bs) sa sc sl ga gc gl da dc dl ua uc ul na nc nl (W.alloc (.cells xs T)) := by
  refine ⟨fun x hx => ?_, h.l.box _, h.k.kept (World.grownBy_alloc _ _ _), fun x hx => ?_, ?_, h.hB, h.hX⟩
  · rcases List.mem_cons.mp hx with rfl | hx
    · exact Bx.new _ _ _
    · exact (h.b x hx).alloc _
  · rcases List.mem_cons.mp hx with rfl | hx
    · exact h.k.size
    · exact h.lo x hx
  · simp only [List.map_cons, List.nodup_cons]
    refine ⟨fun hm => ?_, h.nd⟩
    obtain ⟨x, hx, e⟩ := List.mem_map.mp hm
    have := (h.b x hx).lt
    omega
theorem Sw.put (pre : List (Nat × TypeId × Array Value)) {C : Nat} {T : TypeId} {xs ys : Array Value} {post : List (Nat × TypeId × Array Value)} (h : Sw w B X (pre ++ (C, T, xs) :: post) sa sc sl ga gc gl da dc dl ua uc ul na nc nl W) (i : Nat) (v : Value) (e : xs.setIfInBounds i v = ys) : Sw w B X (pre ++ (C, T, ys) :: post) sa sc sl ga gc gl da dc dl ua uc ul na nc nl (W.setCell ⟨C, i, none⟩ v) := by
  have em : (pre ++ (C, T, ys) :: post).map (·.1) = (pre ++ (C, T, xs) :: post).map (·.1) := by simp
  have hne : ∀ x, x ∈ pre ∨ x ∈ post → x.1 ≠ C := by
    intro x hx e
    have hn := h.nd
    simp only [List.map_append, List.map_cons] at hn
    obtain ⟨_, h2, h3⟩ := List.nodup_append.mp hn
    rcases hx with hx | hx
    · exact h3 _ (List.mem_map.mpr ⟨x, hx, rfl⟩) _ (List.mem_cons_self ..) e
    · exact (List.nodup_cons.mp h2).1 (e ▸ List.mem_map.mpr ⟨x, hx, rfl⟩)
  refine ⟨fun x hx => ?_, em ▸ h.l.set (by simp) i v, h.k.set (h.lo (C, T, xs) (by simp)) i v, fun x hx => ?_, em ▸ h.nd, h.hB, h.hX⟩
  · rcases List.mem_append.mp hx with hx | hx
    · exact (h.b x (by simp [hx])).other (hne x (.inl hx)) i v
    · rcases List.mem_cons.mp hx with rfl | hx
      · subst e
        exact (h.b (C, T, xs) (by simp)).s i v
      · exact (h.b x (by simp [hx])).other (hne x (.inr hx)) i v
  · rcases List.mem_append.mp hx with hx | hx
    · exact h.lo x (by simp [hx])
    · rcases List.mem_cons.mp hx with rfl | hx
      · exact h.lo (C, T, xs) (by simp)
      · exact h.lo x (by simp [hx])
theorem Sw.b0 {C : Nat} {T : TypeId} {xs : Array Value} (h : Sw w B X ((C, T, xs) :: bs) sa sc sl ga gc gl da dc dl ua uc ul na nc nl W) : Bx W C T xs := h.b (C, T, xs) (by simp)
theorem Sw.p0 {C : Nat} {T : TypeId} {xs : Array Value} (h : Sw w B X ((C, T, xs) :: bs) sa sc sl ga gc gl da dc dl ua uc ul na nc nl W) (i : Nat) (v : Value) : Sw w B X ((C, T, xs.setIfInBounds i v) :: bs) sa sc sl ga gc gl da dc dl ua uc ul na nc nl (W.setCell ⟨C, i, none⟩ v) := Sw.put [] h i v rfl
theorem Sw.any0 {C : Nat} {T : TypeId} {xs : Array Value} (h : Sw w B X ((C, T, xs) :: bs) sa sc sl ga gc gl da dc dl ua uc ul na nc nl W) (i : Nat) (v : Value) : ∃ ys, Sw w B X ((C, T, ys) :: bs) sa sc sl ga gc gl da dc dl ua uc ul na nc nl (W.setCell ⟨C, i, none⟩ v) := ⟨_, h.p0 i v⟩
theorem Sw.b1 {b0 : Nat × TypeId × Array Value} {C : Nat} {T : TypeId} {xs : Array Value} (h : Sw w B X (b0 :: (C, T, xs) :: bs) sa sc sl ga gc gl da dc dl ua uc ul na nc nl W) : Bx W C T xs := h.b (C, T, xs) (by simp)
theorem Sw.p1 {b0 : Nat × TypeId × Array Value} {C : Nat} {T : TypeId} {xs : Array Value} (h : Sw w B X (b0 :: (C, T, xs) :: bs) sa sc sl ga gc gl da dc dl ua uc ul na nc nl W) (i : Nat) (v : Value) : Sw w B X (b0 :: (C, T, xs.setIfInBounds i v) :: bs) sa sc sl ga gc gl da dc dl ua uc ul na nc nl (W.setCell ⟨C, i, none⟩ v) := Sw.put [b0] h i v rfl
theorem Sw.any1 {b0 : Nat × TypeId × Array Value} {C : Nat} {T : TypeId} {xs : Array Value} (h : Sw w B X (b0 :: (C, T, xs) :: bs) sa sc sl ga gc gl da dc dl ua uc ul na nc nl W) (i : Nat) (v : Value) : ∃ ys, Sw w B X (b0 :: (C, T, ys) :: bs) sa sc sl ga gc gl da dc dl ua uc ul na nc nl (W.setCell ⟨C, i, none⟩ v) := ⟨_, h.p1 i v⟩
theorem Sw.b2 {b0 b1 : Nat × TypeId × Array Value} {C : Nat} {T : TypeId} {xs : Array Value} (h : Sw w B X (b0 :: b1 :: (C, T, xs) :: bs) sa sc sl ga gc gl da dc dl ua uc ul na nc nl W) : Bx W C T xs := h.b (C, T, xs) (by simp)
theorem Sw.p2 {b0 b1 : Nat × TypeId × Array Value} {C : Nat} {T : TypeId} {xs : Array Value} (h : Sw w B X (b0 :: b1 :: (C, T, xs) :: bs) sa sc sl ga gc gl da dc dl ua uc ul na nc nl W) (i : Nat) (v : Value) : Sw w B X (b0 :: b1 :: (C, T, xs.setIfInBounds i v) :: bs) sa sc sl ga gc gl da dc dl ua uc ul na nc nl (W.setCell ⟨C, i, none⟩ v) := Sw.put [b0, b1] h i v rfl
theorem Sw.any2 {b0 b1 : Nat × TypeId × Array Value} {C : Nat} {T : TypeId} {xs : Array Value} (h : Sw w B X (b0 :: b1 :: (C, T, xs) :: bs) sa sc sl ga gc gl da dc dl ua uc ul na nc nl W) (i : Nat) (v : Value) : ∃ ys, Sw w B X (b0 :: b1 :: (C, T, ys) :: bs) sa sc sl ga gc gl da dc dl ua uc ul na nc nl (W.setCell ⟨C, i, none⟩ v) := ⟨_, h.p2 i v⟩
theorem Sw.b3 {b0 b1 b2 : Nat × TypeId × Array Value} {C : Nat} {T : TypeId} {xs : Array Value} (h : Sw w B X (b0 :: b1 :: b2 :: (C, T, xs) :: bs) sa sc sl ga gc gl da dc dl ua uc ul na nc nl W) : Bx W C T xs := h.b (C, T, xs) (by simp)
theorem Sw.p3 {b0 b1 b2 : Nat × TypeId × Array Value} {C : Nat} {T : TypeId} {xs : Array Value} (h : Sw w B X (b0 :: b1 :: b2 :: (C, T, xs) :: bs) sa sc sl ga gc gl da dc dl ua uc ul na nc nl W) (i : Nat) (v : Value) : Sw w B X (b0 :: b1 :: b2 :: (C, T, xs.setIfInBounds i v) :: bs) sa sc sl ga gc gl da dc dl ua uc ul na nc nl (W.setCell ⟨C, i, none⟩ v) := Sw.put [b0, b1, b2] h i v rfl
theorem Sw.b4 {b0 b1 b2 b3 : Nat × TypeId × Array Value} {C : Nat} {T : TypeId} {xs : Array Value} (h : Sw w B X (b0 :: b1 :: b2 :: b3 :: (C, T, xs) :: bs) sa sc sl ga gc gl da dc dl ua uc ul na nc nl W) : Bx W C T xs := h.b (C, T, xs) (by simp)
theorem Sw.p4 {b0 b1 b2 b3 : Nat × TypeId × Array Value} {C : Nat} {T : TypeId} {xs : Array Value} (h : Sw w B X (b0 :: b1 :: b2 :: b3 :: (C, T, xs) :: bs) sa sc sl ga gc gl da dc dl ua uc ul na nc nl W) (i : Nat) (v : Value) : Sw w B X (b0 :: b1 :: b2 :: b3 :: (C, T, xs.setIfInBounds i v) :: bs) sa sc sl ga gc gl da dc dl ua uc ul na nc nl (W.setCell ⟨C, i, none⟩ v) := Sw.put [b0, b1, b2, b3] h i v rfl
theorem Sw.b5 {b0 b1 b2 b3 b4 : Nat × TypeId × Array Value} {C : Nat} {T : TypeId} {xs : Array Value} (h : Sw w B X (b0 :: b1 :: b2 :: b3 :: b4 :: (C, T, xs) :: bs) sa sc sl ga gc gl da dc dl ua uc ul na nc nl W) : Bx W C T xs := h.b (C, T, xs) (by simp)
theorem Sw.p5 {b0 b1 b2 b3 b4 : Nat × TypeId × Array Value} {C : Nat} {T : TypeId} {xs : Array Value} (h : Sw w B X (b0 :: b1 :: b2 :: b3 :: b4 :: (C, T, xs) :: bs) sa sc sl ga gc gl da dc dl ua uc ul na nc nl W) (i : Nat) (v : Value) : Sw w B X (b0 :: b1 :: b2 :: b3 :: b4 :: (C, T, xs.setIfInBounds i v) :: bs) sa sc sl ga gc gl da dc dl ua uc ul na nc nl (W.setCell ⟨C, i, none⟩ v) := Sw.put [b0, b1, b2, b3, b4] h i v rfl
theorem Sw.call {sa2 : Option Addr} {sc2 : Nat} {sl2 : List Rg} {ga2 : Option Addr} {gc2 : Nat} {gl2 : List Pk} {da2 : Option Addr} {dc2 : Nat} {dl2 : List Rg} {ua2 : Option Addr} {uc2 : Nat} {ul2 : List Nt} {na2 : Option Addr} {nc2 : Nat} {nl2 : List Nt} (h : Sw w B X bs sa sc sl ga gc gl da dc dl ua uc ul na nc nl W) (ha : LwAt W' B (bs.map (·.1) ++ X) sa2 sc2 sl2 ga2 gc2 gl2 da2 dc2 dl2 ua2 uc2 ul2 na2 nc2 nl2) (hk : Kx B (bs.map (·.1) ++ X) W W') : Sw w B X bs sa2 sc2 sl2 ga2 gc2 gl2 da2 dc2 dl2 ua2 uc2 ul2 na2 nc2 nl2 W' := ⟨fun x hx => hk.bx (List.mem_append_left _ (List.mem_map.mpr ⟨x, hx, rfl⟩)) (h.b x hx), ha, h.k.call hk fun _ hb => List.mem_append_right _ hb, h.lo, h.nd, h.hB, h.hX⟩
theorem Sw.fin (h : Sw w B X bs sa sc sl ga gc gl da dc dl ua uc ul na nc nl W) : LwAt W B X sa sc sl ga gc gl da dc dl ua uc ul na nc nl ∧ Kx B X w W := ⟨h.l.dropL _, h.k⟩
theorem bx_row (h : Sw w B X bs sa sc sl ga gc gl da dc dl ua uc ul na nc nl W) {r : Option Nat} (hg : W.grownBy W' r) (hr : ∀ b, r = some b → b ∉ bs.map (·.1) ++ X) : ∀ x ∈ bs, Bx W' x.1 x.2.1 x.2.2 := fun x hx => (h.b x hx).kept hg (fun e => hr x.1 e.symm (by simp only [List.mem_append, List.mem_map]; exact .inl ⟨x, hx, rfl⟩))
theorem mem_off {L : List Nat} {b : Nat} (h : b ∉ L ++ X) : b ∉ X := fun k => h (List.mem_append_right _ k)
/-- What went down grows by one. -/
theorem Sw.pushD {g c H : Nat} {x : Rg} (h : Sw w B X bs sa sc sl ga gc gl da dc dl ua uc ul na nc nl W) (hr : W'.ownsRow B 44 2 (.slice (some ⟨g, 0, none⟩) (dl.length + 1) c) (dl.length + 1) (rgsV dl ++ [.int .i64 x.1, .int .i64 x.2])) (hg : W.grownBy W' (Value.ownBlock (.slice da dl.length dc))) (hat : Value.ownBlock (.slice da dl.length dc) = some g ∨ g = H) (hH : W.heap.size = H) :
    Sw w B X bs sa sc sl ga gc gl (some ⟨g, 0, none⟩) c (dl ++ [x]) ua uc ul na nc nl W' := by
  rw [own_bk] at hg hat
  have hr2 : W'.ownsRow B 44 2 (.slice (some ⟨g, 0, none⟩) (dl ++ [x]).length c) (dl ++ [x]).length (rgsV (dl ++ [x])) := by
    have e : rgsV (dl ++ [x]) = rgsV dl ++ [.int .i64 x.1, .int .i64 x.2] := rgsV_app dl [x]
    rw [e, List.length_append]
    exact hr
  have hl := own_lt h.l.d
  refine ⟨bx_row h hg h.l.dx, h.l.growD hr2 hg ?_, h.k.row hg fun b hb => ⟨(hl b hb).1, mem_off (h.l.dx b hb)⟩, h.lo, h.nd, h.hB, h.hX⟩
  rcases hat with e | e
  · exact .inl e.symm
  · exact .inr (by rw [hH, e]; rfl)
/-- What comes up grows by one. -/
theorem Sw.pushU {g c H : Nat} {x : Nt} (h : Sw w B X bs sa sc sl ga gc gl da dc dl ua uc ul na nc nl W) (hr : W'.ownsRow B 33 4 (.slice (some ⟨g, 0, none⟩) (ul.length + 1) c) (ul.length + 1) (ntsV ul ++ ntL x)) (hg : W.grownBy W' (Value.ownBlock (.slice ua ul.length uc))) (hat : Value.ownBlock (.slice ua ul.length uc) = some g ∨ g = H) (hH : W.heap.size = H) (hx : StN W (bs.map (·.1) ++ X) da ua na x) :
    Sw w B X bs sa sc sl ga gc gl da dc dl (some ⟨g, 0, none⟩) c (ul ++ [x]) na nc nl W' := by
  rw [own_bk] at hg hat
  have hr2 : W'.ownsRow B 33 4 (.slice (some ⟨g, 0, none⟩) (ul ++ [x]).length c) (ul ++ [x]).length (ntsV (ul ++ [x])) := by
    have e : ntsV (ul ++ [x]) = ntsV ul ++ ntL x := by simp [ntsV]
    rw [e, List.length_append]
    exact hr
  have hl := own_lt h.l.u
  refine ⟨bx_row h hg h.l.ux, h.l.growU hr2 hg ?_ ?_, h.k.row hg fun b hb => ⟨(hl b hb).1, mem_off (h.l.ux b hb)⟩, h.lo, h.nd, h.hB, h.hX⟩
  · rcases hat with e | e
    · exact .inl e.symm
    · exact .inr (by rw [hH, e]; rfl)
  · intro z hz
    rcases List.mem_append.mp hz with hz | hz
    · exact h.l.us z hz
    · rw [List.mem_singleton.mp hz]; exact hx
/-- What was seen grows by one. -/
theorem Sw.pushN {g c H : Nat} {x : Nt} (h : Sw w B X bs sa sc sl ga gc gl da dc dl ua uc ul na nc nl W) (hr : W'.ownsRow B 33 4 (.slice (some ⟨g, 0, none⟩) (nl.length + 1) c) (nl.length + 1) (ntsV nl ++ ntL x)) (hg : W.grownBy W' (Value.ownBlock (.slice na nl.length nc))) (hat : Value.ownBlock (.slice na nl.length nc) = some g ∨ g = H) (hH : W.heap.size = H) (hx : StN W (bs.map (·.1) ++ X) da ua na x) :
    Sw w B X bs sa sc sl ga gc gl da dc dl ua uc ul (some ⟨g, 0, none⟩) c (nl ++ [x]) W' := by
  rw [own_bk] at hg hat
  have hr2 : W'.ownsRow B 33 4 (.slice (some ⟨g, 0, none⟩) (nl ++ [x]).length c) (nl ++ [x]).length (ntsV (nl ++ [x])) := by
    have e : ntsV (nl ++ [x]) = ntsV nl ++ ntL x := by simp [ntsV]
    rw [e, List.length_append]
    exact hr
  have hl := own_lt h.l.n
  refine ⟨bx_row h hg h.l.nx, h.l.growN hr2 hg ?_ ?_, h.k.row hg fun b hb => ⟨(hl b hb).1, mem_off (h.l.nx b hb)⟩, h.lo, h.nd, h.hB, h.hX⟩
  · rcases hat with e | e
    · exact .inl e.symm
    · exact .inr (by rw [hH, e]; rfl)
  · intro z hz
    rcases List.mem_append.mp hz with hz | hz
    · exact h.l.ns z hz
    · rw [List.mem_singleton.mp hz]; exact hx
/-- A note with no ranges lies nowhere. -/
theorem stN_nil (k f n : Int) : StN W X da ua na ⟨k, f, n, none, 0, []⟩ := ⟨.inl ⟨rfl, rfl, rfl⟩, fun _ h => (by cases h), fun _ h => (by cases h), fun _ _ h => (by cases h), fun _ _ h => (by cases h), fun _ _ h => (by cases h)⟩
end

end Go.Proofs.Ytedhemllgpbheaa

