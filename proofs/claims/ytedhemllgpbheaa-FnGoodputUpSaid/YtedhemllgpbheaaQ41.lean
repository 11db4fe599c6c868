/- Vg -/
import Derived.Test.YtedhemllgpbheaaQ23
import Derived.Test.YtedhemllgpbheaaQ40
import Derived.Deep.DeepCutAuto
import Derived.Deep.CutBlock
namespace Go.Proofs.Ytedhemllgpbheaa
open Go.RowKit
open P7 (Pk PkAt pksV PcsP prefL)

theorem rd_setD {W : World} {r : Nat} (h : RdOk W r) {b : Nat} (hb : r < b) (i : Nat) (v : Value) : RdOk (W.setCell ⟨b, i, none⟩ v) r := h.kept (grownBy_set W b i v) (by simp; omega) (fun k e => by cases e; exact hb)
/-- Where a drawing stands: its reader, its boxes. -/
structure Ds (w : World) (r : Nat) (bs : List (Nat × TypeId × Array Value)) (W : World) : Prop where
  lr : r < w.heap.size
  g : w.grownBy W (some r)
  rd : RdOk W r
  b : ∀ x ∈ bs, Bx W x.1 x.2.1 x.2.2
  lo : ∀ x ∈ bs, w.heap.size ≤ x.1
  nd : (bs.map (·.1)).Nodup
theorem Ds.start {w : World} {r : Nat} (h : RdOk w r) : Ds w r [] w := ⟨h.lt, World.grownBy.refl _ _, h, by simp, by simp, by simp⟩
theorem Ds.step {w W W' : World} {r : Nat} {bs : List (Nat × TypeId × Array Value)} (h : Ds w r bs W) (hg : W.grownBy W' (some r)) (hr : RdOk W' r) : Ds w r bs W' :=
  ⟨h.lr, grownBy_trans h.g hg, hr, fun x hx => (h.b x hx).kept hg (fun e => by have := h.lo x hx; have := h.lr; cases e; omega), h.lo, h.nd⟩
theorem Ds.new {w W : World} {r : Nat} {bs : List (Nat × TypeId × Array Value)} (h : Ds w r bs W) (T : TypeId) (xs : Array Value) : Ds w r ((W.heap.size, T, xs) :: bs) (W.alloc (.cells xs T)) := by
  refine ⟨h.lr, grownBy_trans h.g (World.grownBy_alloc _ _ _), h.rd.alloc _, fun x hx => ?_, fun x hx => ?_, ?_⟩
  · rcases List.mem_cons.mp hx with rfl | hx
    · exact Bx.new _ _ _
    · exact (h.b x hx).alloc _
  · rcases List.mem_cons.mp hx with rfl | hx
    · exact h.g.size
    · exact h.lo x hx
  · simp only [List.map_cons, List.nodup_cons]
    refine ⟨fun hm => ?_, h.nd⟩
    obtain ⟨x, hx, e⟩ := List.mem_map.mp hm
    have := (h.b x hx).lt
    omega
theorem Ds.put (pre : List (Nat × TypeId × Array Value)) {w W : World} {r : Nat} {C : Nat} {T : TypeId} {xs : Array Value} {post : List (Nat × TypeId × Array Value)} (h : Ds w r (pre ++ (C, T, xs) :: post) W) (i : Nat) (v : Value) : Ds w r (pre ++ (C, T, xs.setIfInBounds i v) :: post) (W.setCell ⟨C, i, none⟩ v) := by
  have em : (pre ++ (C, T, xs.setIfInBounds i v) :: post).map (·.1) = (pre ++ (C, T, xs) :: post).map (·.1) := by simp
  have hne : ∀ x, x ∈ pre ∨ x ∈ post → x.1 ≠ C := by
    intro x hx e
    have hn := h.nd
    simp only [List.map_append, List.map_cons] at hn
    obtain ⟨_, h2, h3⟩ := List.nodup_append.mp hn
    rcases hx with hx | hx
    · exact h3 _ (List.mem_map.mpr ⟨x, hx, rfl⟩) _ (List.mem_cons_self ..) e
    · exact (List.nodup_cons.mp h2).1 (e ▸ List.mem_map.mpr ⟨x, hx, rfl⟩)
  have hC := h.lo (C, T, xs) (by simp)
  have hl := h.lr
  refine ⟨h.lr, gSr h.g hC i v, rd_setD h.rd (by dsimp only at hC; omega) i v, fun x hx => ?_, fun x hx => ?_, em ▸ h.nd⟩
  · rcases List.mem_append.mp hx with hx | hx
    · exact (h.b x (by simp [hx])).other (hne x (.inl hx)) i v
    · rcases List.mem_cons.mp hx with rfl | hx
      · exact (h.b (C, T, xs) (by simp)).s i v
      · exact (h.b x (by simp [hx])).other (hne x (.inr hx)) i v
  · rcases List.mem_append.mp hx with hx | hx
    · exact h.lo x (by simp [hx])
    · rcases List.mem_cons.mp hx with rfl | hx
      · exact hC
      · exact h.lo x (by simp [hx])
theorem Ds.b0 {w W : World} {r : Nat} {C : Nat} {T : TypeId} {xs : Array Value} {bs : List (Nat × TypeId × Array Value)} (h : Ds w r ((C, T, xs) :: bs) W) : Bx W C T xs := h.b (C, T, xs) (by simp)
theorem Ds.p0 {w W : World} {r : Nat} {C : Nat} {T : TypeId} {xs : Array Value} {bs : List (Nat × TypeId × Array Value)} (h : Ds w r ((C, T, xs) :: bs) W) (i : Nat) (v : Value) : Ds w r ((C, T, xs.setIfInBounds i v) :: bs) (W.setCell ⟨C, i, none⟩ v) := Ds.put [] h i v
theorem Ds.b1 {w W : World} {r : Nat} {b0 : Nat × TypeId × Array Value} {C : Nat} {T : TypeId} {xs : Array Value} {bs : List (Nat × TypeId × Array Value)} (h : Ds w r (b0 :: (C, T, xs) :: bs) W) : Bx W C T xs := h.b (C, T, xs) (by simp)
theorem Ds.p1 {w W : World} {r : Nat} {b0 : Nat × TypeId × Array Value} {C : Nat} {T : TypeId} {xs : Array Value} {bs : List (Nat × TypeId × Array Value)} (h : Ds w r (b0 :: (C, T, xs) :: bs) W) (i : Nat) (v : Value) : Ds w r (b0 :: (C, T, xs.setIfInBounds i v) :: bs) (W.setCell ⟨C, i, none⟩ v) := Ds.put [b0] h i v
theorem Ds.b2 {w W : World} {r : Nat} {b0 b1 : Nat × TypeId × Array Value} {C : Nat} {T : TypeId} {xs : Array Value} {bs : List (Nat × TypeId × Array Value)} (h : Ds w r (b0 :: b1 :: (C, T, xs) :: bs) W) : Bx W C T xs := h.b (C, T, xs) (by simp)
def StPost (w : World) (r : Nat) (e : Ending) (w' : World) : Prop :=
  ∃ (sk sat : Int) (sd : Bool), e = .returned (.agg #[.int .i64 sk, .int .i64 sat, .bool sd]) ∧ w.grownBy w' (some r) ∧ RdOk w' r

set_option maxRecDepth 100000 in
set_option maxHeartbeats 8000000 in
theorem step_draw (t m y z p d o g u n : Int) (sa : Option Addr) (sc : Nat) (sl : List Rg) (ga : Option Addr) (gc : Nat) (gl : List Pk) (da : Option Addr) (dc : Nat) (dl : List Rg) (ua : Option Addr) (uc : Nat) (ul : List Nt) (na : Option Addr) (nc : Nat) (nl : List Nt) (r : Nat) (w : World) (h : RdOk w r) (hd : dl.length ≤ 1000) (hu : ul.length ≤ 1000) :
    Calls Try.prog 24 #[.pointer (some ⟨r, 0, none⟩), .agg #[.int .i64 t, .int .i64 m, .int .i64 y, .int .i64 z, .int .i64 p, .int .i64 d, .int .i64 o, .int .i64 g, .int .i64 u, .int .i64 n, .slice sa sl.length sc, .slice ga gl.length gc, .slice da dl.length dc, .slice ua ul.length uc, .slice na nl.length nc]] w (StPost w r) := by
  have HH := Lib.hid h
  clear h
  have hlt := HH.out.lt
  have k := ((Ds.start HH.out).new 53 #[.int .i64 t, .int .i64 m, .int .i64 y, .int .i64 z, .int .i64 p, .int .i64 d, .int .i64 o, .int .i64 g, .int .i64 u, .int .i64 n, .slice sa sl.length sc, .slice ga gl.length gc, .slice da dl.length dc, .slice ua ul.length uc, .slice na nl.length nc]).new 59 #[.int .i64 0, .int .i64 0, .bool false]
  simp only [World.size_alloc] at k
  have H0 := Lib.hid k
  clear k
  go_enter Try.func24, Try.ntmps24
  go_upto_region 1 with fail
  try simp only [World.size_alloc]
  generalize (w.alloc (.cells #[.int .i64 t, .int .i64 m, .int .i64 y, .int .i64 z, .int .i64 p, .int .i64 d, .int .i64 o, .int .i64 g, .int .i64 u, .int .i64 n, .slice sa sl.length sc, .slice ga gl.length gc, .slice da dl.length dc, .slice ua ul.length uc, .slice na nl.length nc] 53)).alloc (.cells #[.int .i64 0, .int .i64 0, .bool false] 59) = W0 at *
  generalize w.heap.size + 1 = C1 at *
  obtain ⟨C0, hC0⟩ : ∃ C, C = w.heap.size := ⟨_, rfl⟩
  rw [← hC0] at H0
  try rw [← hC0]
  clear hC0 HH hlt
  go_wp2_with fail
  refine (once_any _ _ _ H0.out.rd (by omega) (by omega)).mono ?_
  rintro e w1 ⟨b0, rfl, hg, hr⟩
  have H1 := Lib.hid (H0.out.step hg hr)
  clear hg hr
  have H2 := Lib.hid (H1.out.new 59 #[.int .i64 1, .int .i64 0, .bool b0])
  go_upto_region 2 with fail
  generalize w1.alloc (.cells #[.int .i64 1, .int .i64 0, .bool b0] 59) = w2 at *
  generalize w1.heap.size = C2 at *
  clear H0 H1
  go_wp2_with fail
  refine (below_any _ _ _ H2.out.rd (by omega)).mono ?_
  rintro e w3 ⟨v, v0, v1, rfl, hg, hr⟩
  have H3 := Lib.hid (H2.out.step hg hr)
  clear hg hr
  rw [if_neg (by omega)] at v1
  go_upto_block 0 with fail
  go_cut [] (fun wx => ∃ sk sat : Int, Ds w r [(C2, 59, #[.int .i64 sk, .int .i64 sat, .bool b0]), (C1, 59, #[.int .i64 0, .int .i64 0, .bool false]), (C0, 53, #[.int .i64 t, .int .i64 m, .int .i64 y, .int .i64 z, .int .i64 p, .int .i64 d, .int .i64 o, .int .i64 g, .int .i64 u, .int .i64 n, .slice sa sl.length sc, .slice ga gl.length gc, .slice da dl.length dc, .slice ua ul.length uc, .slice na nl.length nc])] wx)
  case first =>
    rcases (show v = 0 ∨ v = 1 ∨ v = 2 ∨ v = 3 ∨ v = 4 ∨ v = 5 ∨ v = 6 ∨ v = 7 by omega) with rfl | rfl | rfl | rfl | rfl | rfl | rfl | rfl
    · have c0 : (w3).cell? ⟨C2, 0, none⟩ = some (.int .i64 1) := H3.out.b0.c 0 rfl
      have f0 := H3.out.b0.f 0
      have k1_0 : Ds w r [(C2, 59, #[.int .i64 2, .int .i64 0, .bool b0]), (C1, 59, #[.int .i64 0, .int .i64 0, .bool false]), (C0, 53, #[.int .i64 t, .int .i64 m, .int .i64 y, .int .i64 z, .int .i64 p, .int .i64 d, .int .i64 o, .int .i64 g, .int .i64 u, .int .i64 n, .slice sa sl.length sc, .slice ga gl.length gc, .slice da dl.length dc, .slice ua ul.length uc, .slice na nl.length nc])] (w3.setCell ⟨C2, 0, none⟩ (.int .i64 2)) := H3.out.p0 0 (.int .i64 2)
      have H4 := Lib.hid k1_0
      clear k1_0
      go_upto_region 7 with fail
      generalize (w3.setCell ⟨C2, 0, none⟩ (.int .i64 2)) = w4 at *
      clear c0 f0 H3
      have c12 : (w4).cell? ⟨C0, 12, none⟩ = some (.slice da dl.length dc) := H4.out.b2.c 12 rfl
      go_wp2_with fail
      all_goals
        refine (below_any _ _ _ H4.out.rd (by first | omega | (split <;> omega))).mono ?_
        rintro e w5 ⟨x, x0, x1, rfl, hg, hr⟩
        have H5 := Lib.hid (H4.out.step hg hr)
        clear hg hr
        clear c12 H4
        have c1 : (w5).cell? ⟨C2, 1, none⟩ = some (.int .i64 0) := H5.out.b0.c 1 rfl
        have f1 := H5.out.b0.f 1
        have k2_1 : Ds w r [(C2, 59, #[.int .i64 2, .int .i64 x, .bool b0]), (C1, 59, #[.int .i64 0, .int .i64 0, .bool false]), (C0, 53, #[.int .i64 t, .int .i64 m, .int .i64 y, .int .i64 z, .int .i64 p, .int .i64 d, .int .i64 o, .int .i64 g, .int .i64 u, .int .i64 n, .slice sa sl.length sc, .slice ga gl.length gc, .slice da dl.length dc, .slice ua ul.length uc, .slice na nl.length nc])] (w5.setCell ⟨C2, 1, none⟩ (.int .i64 x)) := H5.out.p0 1 (.int .i64 x)
        go_wp2_with fail
        go_meet
        exact ⟨2, x, k2_1⟩
    · have c0 : (w3).cell? ⟨C2, 0, none⟩ = some (.int .i64 1) := H3.out.b0.c 0 rfl
      have f0 := H3.out.b0.f 0
      have k3_0 : Ds w r [(C2, 59, #[.int .i64 2, .int .i64 0, .bool b0]), (C1, 59, #[.int .i64 0, .int .i64 0, .bool false]), (C0, 53, #[.int .i64 t, .int .i64 m, .int .i64 y, .int .i64 z, .int .i64 p, .int .i64 d, .int .i64 o, .int .i64 g, .int .i64 u, .int .i64 n, .slice sa sl.length sc, .slice ga gl.length gc, .slice da dl.length dc, .slice ua ul.length uc, .slice na nl.length nc])] (w3.setCell ⟨C2, 0, none⟩ (.int .i64 2)) := H3.out.p0 0 (.int .i64 2)
      have H4 := Lib.hid k3_0
      clear k3_0
      go_upto_region 7 with fail
      generalize (w3.setCell ⟨C2, 0, none⟩ (.int .i64 2)) = w4 at *
      clear c0 f0 H3
      have c12 : (w4).cell? ⟨C0, 12, none⟩ = some (.slice da dl.length dc) := H4.out.b2.c 12 rfl
      go_wp2_with fail
      all_goals
        refine (below_any _ _ _ H4.out.rd (by first | omega | (split <;> omega))).mono ?_
        rintro e w5 ⟨x, x0, x1, rfl, hg, hr⟩
        have H5 := Lib.hid (H4.out.step hg hr)
        clear hg hr
        clear c12 H4
        have c1 : (w5).cell? ⟨C2, 1, none⟩ = some (.int .i64 0) := H5.out.b0.c 1 rfl
        have f1 := H5.out.b0.f 1
        have k4_1 : Ds w r [(C2, 59, #[.int .i64 2, .int .i64 x, .bool b0]), (C1, 59, #[.int .i64 0, .int .i64 0, .bool false]), (C0, 53, #[.int .i64 t, .int .i64 m, .int .i64 y, .int .i64 z, .int .i64 p, .int .i64 d, .int .i64 o, .int .i64 g, .int .i64 u, .int .i64 n, .slice sa sl.length sc, .slice ga gl.length gc, .slice da dl.length dc, .slice ua ul.length uc, .slice na nl.length nc])] (w5.setCell ⟨C2, 1, none⟩ (.int .i64 x)) := H5.out.p0 1 (.int .i64 x)
        go_wp2_with fail
        go_meet
        exact ⟨2, x, k4_1⟩
    · have c0 : (w3).cell? ⟨C2, 0, none⟩ = some (.int .i64 1) := H3.out.b0.c 0 rfl
      have f0 := H3.out.b0.f 0
      have k5_0 : Ds w r [(C2, 59, #[.int .i64 2, .int .i64 0, .bool b0]), (C1, 59, #[.int .i64 0, .int .i64 0, .bool false]), (C0, 53, #[.int .i64 t, .int .i64 m, .int .i64 y, .int .i64 z, .int .i64 p, .int .i64 d, .int .i64 o, .int .i64 g, .int .i64 u, .int .i64 n, .slice sa sl.length sc, .slice ga gl.length gc, .slice da dl.length dc, .slice ua ul.length uc, .slice na nl.length nc])] (w3.setCell ⟨C2, 0, none⟩ (.int .i64 2)) := H3.out.p0 0 (.int .i64 2)
      have H4 := Lib.hid k5_0
      clear k5_0
      go_upto_region 7 with fail
      generalize (w3.setCell ⟨C2, 0, none⟩ (.int .i64 2)) = w4 at *
      clear c0 f0 H3
      have c12 : (w4).cell? ⟨C0, 12, none⟩ = some (.slice da dl.length dc) := H4.out.b2.c 12 rfl
      go_wp2_with fail
      all_goals
        refine (below_any _ _ _ H4.out.rd (by first | omega | (split <;> omega))).mono ?_
        rintro e w5 ⟨x, x0, x1, rfl, hg, hr⟩
        have H5 := Lib.hid (H4.out.step hg hr)
        clear hg hr
        clear c12 H4
        have c1 : (w5).cell? ⟨C2, 1, none⟩ = some (.int .i64 0) := H5.out.b0.c 1 rfl
        have f1 := H5.out.b0.f 1
        have k6_1 : Ds w r [(C2, 59, #[.int .i64 2, .int .i64 x, .bool b0]), (C1, 59, #[.int .i64 0, .int .i64 0, .bool false]), (C0, 53, #[.int .i64 t, .int .i64 m, .int .i64 y, .int .i64 z, .int .i64 p, .int .i64 d, .int .i64 o, .int .i64 g, .int .i64 u, .int .i64 n, .slice sa sl.length sc, .slice ga gl.length gc, .slice da dl.length dc, .slice ua ul.length uc, .slice na nl.length nc])] (w5.setCell ⟨C2, 1, none⟩ (.int .i64 x)) := H5.out.p0 1 (.int .i64 x)
        go_wp2_with fail
        go_meet
        exact ⟨2, x, k6_1⟩
    · have c0 : (w3).cell? ⟨C2, 0, none⟩ = some (.int .i64 1) := H3.out.b0.c 0 rfl
      have f0 := H3.out.b0.f 0
      have k7_0 : Ds w r [(C2, 59, #[.int .i64 3, .int .i64 0, .bool b0]), (C1, 59, #[.int .i64 0, .int .i64 0, .bool false]), (C0, 53, #[.int .i64 t, .int .i64 m, .int .i64 y, .int .i64 z, .int .i64 p, .int .i64 d, .int .i64 o, .int .i64 g, .int .i64 u, .int .i64 n, .slice sa sl.length sc, .slice ga gl.length gc, .slice da dl.length dc, .slice ua ul.length uc, .slice na nl.length nc])] (w3.setCell ⟨C2, 0, none⟩ (.int .i64 3)) := H3.out.p0 0 (.int .i64 3)
      have H4 := Lib.hid k7_0
      clear k7_0
      go_upto_region 12 with fail
      generalize (w3.setCell ⟨C2, 0, none⟩ (.int .i64 3)) = w4 at *
      clear c0 f0 H3
      have c13 : (w4).cell? ⟨C0, 13, none⟩ = some (.slice ua ul.length uc) := H4.out.b2.c 13 rfl
      go_wp2_with fail
      all_goals
        refine (below_any _ _ _ H4.out.rd (by first | omega | (split <;> omega))).mono ?_
        rintro e w5 ⟨x, x0, x1, rfl, hg, hr⟩
        have H5 := Lib.hid (H4.out.step hg hr)
        clear hg hr
        clear c13 H4
        have c1 : (w5).cell? ⟨C2, 1, none⟩ = some (.int .i64 0) := H5.out.b0.c 1 rfl
        have f1 := H5.out.b0.f 1
        have k8_1 : Ds w r [(C2, 59, #[.int .i64 3, .int .i64 x, .bool b0]), (C1, 59, #[.int .i64 0, .int .i64 0, .bool false]), (C0, 53, #[.int .i64 t, .int .i64 m, .int .i64 y, .int .i64 z, .int .i64 p, .int .i64 d, .int .i64 o, .int .i64 g, .int .i64 u, .int .i64 n, .slice sa sl.length sc, .slice ga gl.length gc, .slice da dl.length dc, .slice ua ul.length uc, .slice na nl.length nc])] (w5.setCell ⟨C2, 1, none⟩ (.int .i64 x)) := H5.out.p0 1 (.int .i64 x)
        go_wp2_with fail
        go_meet
        exact ⟨3, x, k8_1⟩
    · have c0 : (w3).cell? ⟨C2, 0, none⟩ = some (.int .i64 1) := H3.out.b0.c 0 rfl
      have f0 := H3.out.b0.f 0
      have k9_0 : Ds w r [(C2, 59, #[.int .i64 3, .int .i64 0, .bool b0]), (C1, 59, #[.int .i64 0, .int .i64 0, .bool false]), (C0, 53, #[.int .i64 t, .int .i64 m, .int .i64 y, .int .i64 z, .int .i64 p, .int .i64 d, .int .i64 o, .int .i64 g, .int .i64 u, .int .i64 n, .slice sa sl.length sc, .slice ga gl.length gc, .slice da dl.length dc, .slice ua ul.length uc, .slice na nl.length nc])] (w3.setCell ⟨C2, 0, none⟩ (.int .i64 3)) := H3.out.p0 0 (.int .i64 3)
      have H4 := Lib.hid k9_0
      clear k9_0
      go_upto_region 12 with fail
      generalize (w3.setCell ⟨C2, 0, none⟩ (.int .i64 3)) = w4 at *
      clear c0 f0 H3
      have c13 : (w4).cell? ⟨C0, 13, none⟩ = some (.slice ua ul.length uc) := H4.out.b2.c 13 rfl
      go_wp2_with fail
      all_goals
        refine (below_any _ _ _ H4.out.rd (by first | omega | (split <;> omega))).mono ?_
        rintro e w5 ⟨x, x0, x1, rfl, hg, hr⟩
        have H5 := Lib.hid (H4.out.step hg hr)
        clear hg hr
        clear c13 H4
        have c1 : (w5).cell? ⟨C2, 1, none⟩ = some (.int .i64 0) := H5.out.b0.c 1 rfl
        have f1 := H5.out.b0.f 1
        have k10_1 : Ds w r [(C2, 59, #[.int .i64 3, .int .i64 x, .bool b0]), (C1, 59, #[.int .i64 0, .int .i64 0, .bool false]), (C0, 53, #[.int .i64 t, .int .i64 m, .int .i64 y, .int .i64 z, .int .i64 p, .int .i64 d, .int .i64 o, .int .i64 g, .int .i64 u, .int .i64 n, .slice sa sl.length sc, .slice ga gl.length gc, .slice da dl.length dc, .slice ua ul.length uc, .slice na nl.length nc])] (w5.setCell ⟨C2, 1, none⟩ (.int .i64 x)) := H5.out.p0 1 (.int .i64 x)
        go_wp2_with fail
        go_meet
        exact ⟨3, x, k10_1⟩
    · have c0 : (w3).cell? ⟨C2, 0, none⟩ = some (.int .i64 1) := H3.out.b0.c 0 rfl
      have f0 := H3.out.b0.f 0
      have k11_0 : Ds w r [(C2, 59, #[.int .i64 3, .int .i64 0, .bool b0]), (C1, 59, #[.int .i64 0, .int .i64 0, .bool false]), (C0, 53, #[.int .i64 t, .int .i64 m, .int .i64 y, .int .i64 z, .int .i64 p, .int .i64 d, .int .i64 o, .int .i64 g, .int .i64 u, .int .i64 n, .slice sa sl.length sc, .slice ga gl.length gc, .slice da dl.length dc, .slice ua ul.length uc, .slice na nl.length nc])] (w3.setCell ⟨C2, 0, none⟩ (.int .i64 3)) := H3.out.p0 0 (.int .i64 3)
      have H4 := Lib.hid k11_0
      clear k11_0
      go_upto_region 12 with fail
      generalize (w3.setCell ⟨C2, 0, none⟩ (.int .i64 3)) = w4 at *
      clear c0 f0 H3
      have c13 : (w4).cell? ⟨C0, 13, none⟩ = some (.slice ua ul.length uc) := H4.out.b2.c 13 rfl
      go_wp2_with fail
      all_goals
        refine (below_any _ _ _ H4.out.rd (by first | omega | (split <;> omega))).mono ?_
        rintro e w5 ⟨x, x0, x1, rfl, hg, hr⟩
        have H5 := Lib.hid (H4.out.step hg hr)
        clear hg hr
        clear c13 H4
        have c1 : (w5).cell? ⟨C2, 1, none⟩ = some (.int .i64 0) := H5.out.b0.c 1 rfl
        have f1 := H5.out.b0.f 1
        have k12_1 : Ds w r [(C2, 59, #[.int .i64 3, .int .i64 x, .bool b0]), (C1, 59, #[.int .i64 0, .int .i64 0, .bool false]), (C0, 53, #[.int .i64 t, .int .i64 m, .int .i64 y, .int .i64 z, .int .i64 p, .int .i64 d, .int .i64 o, .int .i64 g, .int .i64 u, .int .i64 n, .slice sa sl.length sc, .slice ga gl.length gc, .slice da dl.length dc, .slice ua ul.length uc, .slice na nl.length nc])] (w5.setCell ⟨C2, 1, none⟩ (.int .i64 x)) := H5.out.p0 1 (.int .i64 x)
        go_wp2_with fail
        go_meet
        exact ⟨3, x, k12_1⟩
    · go_wp2_with fail
      refine (once_any _ _ _ H3.out.rd (by omega) (by omega)).mono ?_
      rintro e w4 ⟨b1, rfl, hg, hr⟩
      have H4 := Lib.hid (H3.out.step hg hr)
      clear hg hr
      cases b1
      · go_wp2_with fail
        go_meet
        exact ⟨1, 0, H4.out⟩
      · have c0 : (w4).cell? ⟨C2, 0, none⟩ = some (.int .i64 1) := H4.out.b0.c 0 rfl
        have f0 := H4.out.b0.f 0
        have k13_0 : Ds w r [(C2, 59, #[.int .i64 4, .int .i64 0, .bool b0]), (C1, 59, #[.int .i64 0, .int .i64 0, .bool false]), (C0, 53, #[.int .i64 t, .int .i64 m, .int .i64 y, .int .i64 z, .int .i64 p, .int .i64 d, .int .i64 o, .int .i64 g, .int .i64 u, .int .i64 n, .slice sa sl.length sc, .slice ga gl.length gc, .slice da dl.length dc, .slice ua ul.length uc, .slice na nl.length nc])] (w4.setCell ⟨C2, 0, none⟩ (.int .i64 4)) := H4.out.p0 0 (.int .i64 4)
        go_wp2_with fail
        go_meet
        exact ⟨4, 0, k13_0⟩
    · go_wp2_with fail
      go_meet
      exact ⟨1, 0, H3.out⟩
  case rest =>
    clear H3 v0 v1
    obtain ⟨sk, sat, hs⟩ := hcut
    generalize hwc : wc = w6 at *
    clear hwc
    have H6 := Lib.hid hs
    clear hs
    go_wp2_with fail
    refine (once_any _ _ _ H6.out.rd (by omega) (by omega)).mono ?_
    rintro e w7 ⟨b2, rfl, hg, hr⟩
    have H7 := Lib.hid (H6.out.step hg hr)
    clear hg hr
    cases b2
    · go_upto_region 18 with fail
      have c0 : (w7).cell? ⟨C2, 0, none⟩ = some (.int .i64 sk) := H7.out.b0.c 0 rfl
      have c1 : (w7).cell? ⟨C2, 1, none⟩ = some (.int .i64 sat) := H7.out.b0.c 1 rfl
      have c2 : (w7).cell? ⟨C2, 2, none⟩ = some (.bool b0) := H7.out.b0.c 2 rfl
      have z0 : (w7).cell? ⟨C1, 0, none⟩ = some (.int .i64 0) := H7.out.b1.c 0 rfl
      have z1 : (w7).cell? ⟨C1, 1, none⟩ = some (.int .i64 0) := H7.out.b1.c 1 rfl
      have z2 : (w7).cell? ⟨C1, 2, none⟩ = some (.bool false) := H7.out.b1.c 2 rfl
      have y0 := H7.out.b1.f 0
      have y1 := H7.out.b1.f 1
      have y2 := H7.out.b1.f 2
      have k14_0 : Ds w r [(C2, 59, #[.int .i64 sk, .int .i64 sat, .bool b0]), (C1, 59, #[.int .i64 sk, .int .i64 0, .bool false]), (C0, 53, #[.int .i64 t, .int .i64 m, .int .i64 y, .int .i64 z, .int .i64 p, .int .i64 d, .int .i64 o, .int .i64 g, .int .i64 u, .int .i64 n, .slice sa sl.length sc, .slice ga gl.length gc, .slice da dl.length dc, .slice ua ul.length uc, .slice na nl.length nc])] (w7.setCell ⟨C1, 0, none⟩ (.int .i64 sk)) := H7.out.p1 0 (.int .i64 sk)
      have k14_1 : Ds w r [(C2, 59, #[.int .i64 sk, .int .i64 sat, .bool b0]), (C1, 59, #[.int .i64 sk, .int .i64 sat, .bool false]), (C0, 53, #[.int .i64 t, .int .i64 m, .int .i64 y, .int .i64 z, .int .i64 p, .int .i64 d, .int .i64 o, .int .i64 g, .int .i64 u, .int .i64 n, .slice sa sl.length sc, .slice ga gl.length gc, .slice da dl.length dc, .slice ua ul.length uc, .slice na nl.length nc])] ((w7.setCell ⟨C1, 0, none⟩ (.int .i64 sk)).setCell ⟨C1, 1, none⟩ (.int .i64 sat)) := k14_0.p1 1 (.int .i64 sat)
      have k14_2 : Ds w r [(C2, 59, #[.int .i64 sk, .int .i64 sat, .bool b0]), (C1, 59, #[.int .i64 sk, .int .i64 sat, .bool b0]), (C0, 53, #[.int .i64 t, .int .i64 m, .int .i64 y, .int .i64 z, .int .i64 p, .int .i64 d, .int .i64 o, .int .i64 g, .int .i64 u, .int .i64 n, .slice sa sl.length sc, .slice ga gl.length gc, .slice da dl.length dc, .slice ua ul.length uc, .slice na nl.length nc])] (((w7.setCell ⟨C1, 0, none⟩ (.int .i64 sk)).setCell ⟨C1, 1, none⟩ (.int .i64 sat)).setCell ⟨C1, 2, none⟩ (.bool b0)) := k14_1.p1 2 (.bool b0)
      have HK := Lib.hid k14_2
      go_wp2_with fail
      exact bodyPost_ret (v := .agg #[.int .i64 sk, .int .i64 sat, .bool b0]) (by simp [results, Try.results24, go_sem, z0, z1, z2]) rfl ⟨sk, sat, b0, rfl, HK.out.g, HK.out.rd⟩
    · go_wp2_with fail
      refine (off_w _ _ _ _ H7.out.rd (by omega) (wf_of (by omega) (by omega))).mono ?_
      rintro e w8 ⟨q, _, rfl, hg, hr⟩
      have H8 := Lib.hid (H7.out.step hg hr)
      clear hg hr
      have c0 : (w8).cell? ⟨C2, 0, none⟩ = some (.int .i64 sk) := H8.out.b0.c 0 rfl
      have f0 := H8.out.b0.f 0
      have k15_0 : Ds w r [(C2, 59, #[.int .i64 q, .int .i64 sat, .bool b0]), (C1, 59, #[.int .i64 0, .int .i64 0, .bool false]), (C0, 53, #[.int .i64 t, .int .i64 m, .int .i64 y, .int .i64 z, .int .i64 p, .int .i64 d, .int .i64 o, .int .i64 g, .int .i64 u, .int .i64 n, .slice sa sl.length sc, .slice ga gl.length gc, .slice da dl.length dc, .slice ua ul.length uc, .slice na nl.length nc])] (w8.setCell ⟨C2, 0, none⟩ (.int .i64 q)) := H8.out.p0 0 (.int .i64 q)
      have H9 := Lib.hid k15_0
      clear k15_0
      go_upto_region 18 with fail
      generalize (w8.setCell ⟨C2, 0, none⟩ (.int .i64 q)) = w9 at *
      clear c0 f0 H8
      have c0 : (w9).cell? ⟨C2, 0, none⟩ = some (.int .i64 q) := H9.out.b0.c 0 rfl
      have c1 : (w9).cell? ⟨C2, 1, none⟩ = some (.int .i64 sat) := H9.out.b0.c 1 rfl
      have c2 : (w9).cell? ⟨C2, 2, none⟩ = some (.bool b0) := H9.out.b0.c 2 rfl
      have z0 : (w9).cell? ⟨C1, 0, none⟩ = some (.int .i64 0) := H9.out.b1.c 0 rfl
      have z1 : (w9).cell? ⟨C1, 1, none⟩ = some (.int .i64 0) := H9.out.b1.c 1 rfl
      have z2 : (w9).cell? ⟨C1, 2, none⟩ = some (.bool false) := H9.out.b1.c 2 rfl
      have y0 := H9.out.b1.f 0
      have y1 := H9.out.b1.f 1
      have y2 := H9.out.b1.f 2
      have k16_0 : Ds w r [(C2, 59, #[.int .i64 q, .int .i64 sat, .bool b0]), (C1, 59, #[.int .i64 q, .int .i64 0, .bool false]), (C0, 53, #[.int .i64 t, .int .i64 m, .int .i64 y, .int .i64 z, .int .i64 p, .int .i64 d, .int .i64 o, .int .i64 g, .int .i64 u, .int .i64 n, .slice sa sl.length sc, .slice ga gl.length gc, .slice da dl.length dc, .slice ua ul.length uc, .slice na nl.length nc])] (w9.setCell ⟨C1, 0, none⟩ (.int .i64 q)) := H9.out.p1 0 (.int .i64 q)
      have k16_1 : Ds w r [(C2, 59, #[.int .i64 q, .int .i64 sat, .bool b0]), (C1, 59, #[.int .i64 q, .int .i64 sat, .bool false]), (C0, 53, #[.int .i64 t, .int .i64 m, .int .i64 y, .int .i64 z, .int .i64 p, .int .i64 d, .int .i64 o, .int .i64 g, .int .i64 u, .int .i64 n, .slice sa sl.length sc, .slice ga gl.length gc, .slice da dl.length dc, .slice ua ul.length uc, .slice na nl.length nc])] ((w9.setCell ⟨C1, 0, none⟩ (.int .i64 q)).setCell ⟨C1, 1, none⟩ (.int .i64 sat)) := k16_0.p1 1 (.int .i64 sat)
      have k16_2 : Ds w r [(C2, 59, #[.int .i64 q, .int .i64 sat, .bool b0]), (C1, 59, #[.int .i64 q, .int .i64 sat, .bool b0]), (C0, 53, #[.int .i64 t, .int .i64 m, .int .i64 y, .int .i64 z, .int .i64 p, .int .i64 d, .int .i64 o, .int .i64 g, .int .i64 u, .int .i64 n, .slice sa sl.length sc, .slice ga gl.length gc, .slice da dl.length dc, .slice ua ul.length uc, .slice na nl.length nc])] (((w9.setCell ⟨C1, 0, none⟩ (.int .i64 q)).setCell ⟨C1, 1, none⟩ (.int .i64 sat)).setCell ⟨C1, 2, none⟩ (.bool b0)) := k16_1.p1 2 (.bool b0)
      have HK := Lib.hid k16_2
      go_wp2_with fail
      exact bodyPost_ret (v := .agg #[.int .i64 q, .int .i64 sat, .bool b0]) (by simp [results, Try.results24, go_sem, z0, z1, z2]) rfl ⟨q, sat, b0, rfl, HK.out.g, HK.out.rd⟩
theorem step_V (V : Wv) (r : Nat) (w : World) (h : RdOk w r) (hle : V.le 400 400 400) : Calls Try.prog 24 #[.pointer (some ⟨r, 0, none⟩), V.v] w (StPost w r) := by
  obtain ⟨h1, h2, h3, h4, h5, h6, h7⟩ := hle
  exact step_draw V.t V.m V.y V.z V.p V.d V.o V.g V.u V.n V.sa V.sc V.sl V.ga V.gc V.gl V.da V.dc V.dl V.ua V.uc V.ul V.na V.nc V.nl r w h (by omega) (by omega)

end Go.Proofs.Ytedhemllgpbheaa

