/- Ws -/
import Derived.Test.YtedhemllgpbheaaQ25
namespace Go.Proofs.Ytedhemllgpbheaa
open Go.RowKit
open P7 (Pk PkAt pksV)

theorem gen_wq {K : World → Prop} {P : World → Prop} {W : World} (h : P W) (f : ∀ V, P V → K V) : K W := f W h

set_option maxRecDepth 100000 in
set_option maxHeartbeats 8000000 in
theorem wcopy_S (t m y z p d o g u n : Int) (sa : Option Addr) (sc : Nat) (sl : List Rg) (ga : Option Addr) (gc : Nat) (gl : List Pk) (da : Option Addr) (dc : Nat) (dl : List Rg) (ua : Option Addr) (uc : Nat) (ul : List Nt) (na : Option Addr) (nc : Nat) (nl : List Nt) (w : World) (X : List Nat) (h : LrAt w sa sc sl ga gc gl da dc dl ua uc ul na nc nl) (hX : ∀ b ∈ X, b < w.heap.size) (hd : dl.length ≤ 1000) (hu : ul.length ≤ 1000) (hn : nl.length ≤ 1000) (hsl : sl.length ≤ 1000) (hgl : gl.length ≤ 900) (hum : ∀ x ∈ ul, x.l.length ≤ 3) (hnm : ∀ x ∈ nl, x.l.length ≤ 3) :
    Calls Try.prog 38 #[.agg #[.int .i64 t, .int .i64 m, .int .i64 y, .int .i64 z, .int .i64 p, .int .i64 d, .int .i64 o, .int .i64 g, .int .i64 u, .int .i64 n, .slice sa sl.length sc, .slice ga gl.length gc, .slice da dl.length dc, .slice ua ul.length uc, .slice na nl.length nc]] w (WcPost w X t m y z p d o g u n sl gl dl ul nl) := by
  obtain ⟨i0, hi, hz0, hz1, hz2⟩ := info_of infoRg
  obtain ⟨i2, pi, pz0, pz1, pz2⟩ := info_of P7.infoPk
  have HR := Lib.hid (And.intro h hX)
  obtain ⟨C0, hC0⟩ : ∃ C, C = w.heap.size := ⟨_, rfl⟩
  obtain ⟨C1, hC1⟩ : ∃ C, C = w.heap.size + 1 := ⟨_, rfl⟩
  have k := (((Sw.start (LwAt.nil w w.heap.size X hX) (Nat.le_refl _)).new 53 #[.int .i64 t, .int .i64 m, .int .i64 y, .int .i64 z, .int .i64 p, .int .i64 d, .int .i64 o, .int .i64 g, .int .i64 u, .int .i64 n, .slice sa sl.length sc, .slice ga gl.length gc, .slice da dl.length dc, .slice ua ul.length uc, .slice na nl.length nc]).new 53 #[.int .i64 0, .int .i64 0, .int .i64 0, .int .i64 0, .int .i64 0, .int .i64 0, .int .i64 0, .int .i64 0, .int .i64 0, .int .i64 0, .slice none 0 0, .slice none 0 0, .slice none 0 0, .slice none 0 0, .slice none 0 0])
  simp only [World.size_alloc] at k
  rw [← hC1, ← hC0] at k
  have H0 := Lib.hid k
  clear k h hX
  go_enter Try.func38, Try.ntmps38
  go_upto_region 1 with fail
  try simp only [World.size_alloc]
  try rw [← hC1]
  try rw [← hC0]
  have HCC := Lib.hid hC0
  clear hC0 hC1
  generalize ((w.alloc (.cells #[.int .i64 t, .int .i64 m, .int .i64 y, .int .i64 z, .int .i64 p, .int .i64 d, .int .i64 o, .int .i64 g, .int .i64 u, .int .i64 n, .slice sa sl.length sc, .slice ga gl.length gc, .slice da dl.length dc, .slice ua ul.length uc, .slice na nl.length nc] 53)).alloc (.cells #[.int .i64 0, .int .i64 0, .int .i64 0, .int .i64 0, .int .i64 0, .int .i64 0, .int .i64 0, .int .i64 0, .int .i64 0, .int .i64 0, .slice none 0 0, .slice none 0 0, .slice none 0 0, .slice none 0 0, .slice none 0 0] 53)) = W0 at *
  refine wp_region_held_drew (S := fun w' => w'.cell? ⟨C0, 0, none⟩ = some (.int .i64 t) ∧ w'.cell? ⟨C0, 1, none⟩ = some (.int .i64 m) ∧ w'.cell? ⟨C0, 2, none⟩ = some (.int .i64 y) ∧ w'.cell? ⟨C0, 3, none⟩ = some (.int .i64 z) ∧ w'.cell? ⟨C0, 4, none⟩ = some (.int .i64 p) ∧ w'.cell? ⟨C0, 5, none⟩ = some (.int .i64 d) ∧ w'.cell? ⟨C0, 6, none⟩ = some (.int .i64 o) ∧ w'.cell? ⟨C0, 7, none⟩ = some (.int .i64 g) ∧ w'.cell? ⟨C0, 8, none⟩ = some (.int .i64 u) ∧ w'.cell? ⟨C0, 9, none⟩ = some (.int .i64 n) ∧ w'.cell? ⟨C0, 10, none⟩ = some (.slice sa sl.length sc) ∧ w'.cell? ⟨C0, 11, none⟩ = some (.slice ga gl.length gc) ∧ w'.cell? ⟨C0, 12, none⟩ = some (.slice da dl.length dc) ∧ w'.cell? ⟨C0, 13, none⟩ = some (.slice ua ul.length uc) ∧ w'.cell? ⟨C0, 14, none⟩ = some (.slice na nl.length nc)) (by kernel_rfl) (by have hd := H0.out.keep (grownBy_drew (r := none)); exact ⟨(hd).b1.c 0 rfl, (hd).b1.c 1 rfl, (hd).b1.c 2 rfl, (hd).b1.c 3 rfl, (hd).b1.c 4 rfl, (hd).b1.c 5 rfl, (hd).b1.c 6 rfl, (hd).b1.c 7 rfl, (hd).b1.c 8 rfl, (hd).b1.c 9 rfl, (hd).b1.c 10 rfl, (hd).b1.c 11 rfl, (hd).b1.c 12 rfl, (hd).b1.c 13 rfl, (hd).b1.c 14 rfl⟩) (fun hS => ?_)
  have HW0d := Lib.hid (H0.out.keep (grownBy_drew (r := none)))
  refine' (fun (tail : ∀ (sa2 : Option Addr) (sc2 q7 : Nat) (ga2 : Option Addr) (gc2 q11 : Nat) (da2 : Option Addr) (dc2 : Nat) (W : World), Sw w C0 X [(C1, 53, #[.int .i64 0, .int .i64 0, .int .i64 0, .int .i64 0, .int .i64 0, .int .i64 0, .int .i64 0, .int .i64 0, .int .i64 0, .int .i64 0, .slice none 0 0, .slice none 0 0, .slice none 0 0, .slice none 0 0, .slice none 0 0]), (C0, 53, #[.int .i64 t, .int .i64 m, .int .i64 y, .int .i64 z, .int .i64 p, .int .i64 d, .int .i64 o, .int .i64 g, .int .i64 u, .int .i64 n, .slice sa sl.length sc, .slice ga gl.length gc, .slice da dl.length dc, .slice ua ul.length uc, .slice na nl.length nc])] sa2 sc2 sl ga2 gc2 gl da2 dc2 dl none 0 [] none 0 [] W → (_ : Option Addr → Nat → Nat → Option Addr → Nat → Nat → Option Addr → Nat → World → Prop) sa2 sc2 q7 ga2 gc2 q11 da2 dc2 W) => ?main) ?tl
  case main =>
    refine wpAnyH_take (i := 0) (v := ?_) rfl (by kernel_rfl) (by kernel_rfl) (by kernel_rfl) (fun _ _ _ h => h) (Or.inl ⟨by kernel_rfl, ?_⟩) hS ?_
    rotate_left
    · intro w' hSw
      obtain ⟨g0, g1, g2, g3, g4, g5, g6, g7, g8, g9, g10, g11, g12, g13, g14⟩ := hSw
      first | (go_simp; done) | (go_simp; with_reducible rfl)
    simp only [List.getElem_toArray, List.getElem_cons_zero, Act.put, List.setIfInBounds_toArray, List.set_cons_zero, List.set_cons_succ]
    refine wpAnyH_take (i := 1) (v := ?_) rfl (by kernel_rfl) (by kernel_rfl) (by kernel_rfl) (fun _ _ _ h => h) (Or.inl ⟨by kernel_rfl, ?_⟩) hS ?_
    rotate_left
    · intro w' hSw
      obtain ⟨g0, g1, g2, g3, g4, g5, g6, g7, g8, g9, g10, g11, g12, g13, g14⟩ := hSw
      first | (go_simp; done) | (go_simp; with_reducible rfl)
    simp only [List.getElem_toArray, List.getElem_cons_zero, List.getElem_cons_succ, Act.put, List.setIfInBounds_toArray, List.set_cons_zero, List.set_cons_succ]
    refine wpAnyH_take (i := 2) (v := ?_) rfl (by kernel_rfl) (by kernel_rfl) (by kernel_rfl) (fun _ _ _ h => h) (Or.inl ⟨by kernel_rfl, ?_⟩) hS ?_
    rotate_left
    · intro w' hSw
      obtain ⟨g0, g1, g2, g3, g4, g5, g6, g7, g8, g9, g10, g11, g12, g13, g14⟩ := hSw
      first | (go_simp; done) | (go_simp; with_reducible rfl)
    simp only [List.getElem_toArray, List.getElem_cons_zero, List.getElem_cons_succ, Act.put, List.setIfInBounds_toArray, List.set_cons_zero, List.set_cons_succ]
    refine wpAnyH_take (i := 3) (v := ?_) rfl (by kernel_rfl) (by kernel_rfl) (by kernel_rfl) (fun _ _ _ h => h) (Or.inl ⟨by kernel_rfl, ?_⟩) hS ?_
    rotate_left
    · intro w' hSw
      obtain ⟨g0, g1, g2, g3, g4, g5, g6, g7, g8, g9, g10, g11, g12, g13, g14⟩ := hSw
      first | (go_simp; done) | (go_simp; with_reducible rfl)
    simp only [List.getElem_toArray, List.getElem_cons_zero, List.getElem_cons_succ, Act.put, List.setIfInBounds_toArray, List.set_cons_zero, List.set_cons_succ]
    refine wpAnyH_take (i := 4) (v := ?_) rfl (by kernel_rfl) (by kernel_rfl) (by kernel_rfl) (fun _ _ _ h => h) (Or.inl ⟨by kernel_rfl, ?_⟩) hS ?_
    rotate_left
    · intro w' hSw
      obtain ⟨g0, g1, g2, g3, g4, g5, g6, g7, g8, g9, g10, g11, g12, g13, g14⟩ := hSw
      first | (go_simp; done) | (go_simp; with_reducible rfl)
    simp only [List.getElem_toArray, List.getElem_cons_zero, List.getElem_cons_succ, Act.put, List.setIfInBounds_toArray, List.set_cons_zero, List.set_cons_succ]
    refine wpAnyH_take (i := 5) (v := ?_) rfl (by kernel_rfl) (by kernel_rfl) (by kernel_rfl) (fun _ _ _ h => h) (Or.inl ⟨by kernel_rfl, ?_⟩) hS ?_
    rotate_left
    · intro w' hSw
      obtain ⟨g0, g1, g2, g3, g4, g5, g6, g7, g8, g9, g10, g11, g12, g13, g14⟩ := hSw
      first | (go_simp; done) | (go_simp; with_reducible rfl)
    simp only [List.getElem_toArray, List.getElem_cons_zero, List.getElem_cons_succ, Act.put, List.setIfInBounds_toArray, List.set_cons_zero, List.set_cons_succ]
    refine wpAnyH_take (i := 8) (v := ?_) rfl (by kernel_rfl) (by kernel_rfl) (by kernel_rfl) (fun _ _ _ h => h) (Or.inl ⟨by kernel_rfl, ?_⟩) hS ?_
    rotate_left
    · intro w' hSw
      obtain ⟨g0, g1, g2, g3, g4, g5, g6, g7, g8, g9, g10, g11, g12, g13, g14⟩ := hSw
      first | (go_simp; done) | (go_simp; with_reducible rfl)
    simp only [List.getElem_toArray, List.getElem_cons_zero, List.getElem_cons_succ, Act.put, List.setIfInBounds_toArray, List.set_cons_zero, List.set_cons_succ]
    refine wpAnyH_take (i := 9) (v := ?_) rfl (by kernel_rfl) (by kernel_rfl) (by kernel_rfl) (fun _ _ _ h => h) (Or.inl ⟨by kernel_rfl, ?_⟩) hS ?_
    rotate_left
    · intro w' hSw
      obtain ⟨g0, g1, g2, g3, g4, g5, g6, g7, g8, g9, g10, g11, g12, g13, g14⟩ := hSw
      first | (go_simp; done) | (go_simp; with_reducible rfl)
    simp only [List.getElem_toArray, List.getElem_cons_zero, List.getElem_cons_succ, Act.put, List.setIfInBounds_toArray, List.set_cons_zero, List.set_cons_succ]
    refine wpAnyH_take (i := 12) (v := ?_) rfl (by kernel_rfl) (by kernel_rfl) (by kernel_rfl) (fun _ _ _ h => h) (Or.inl ⟨by kernel_rfl, ?_⟩) hS ?_
    rotate_left
    · intro w' hSw
      obtain ⟨g0, g1, g2, g3, g4, g5, g6, g7, g8, g9, g10, g11, g12, g13, g14⟩ := hSw
      first | (go_simp; done) | (go_simp; with_reducible rfl)
    simp only [List.getElem_toArray, List.getElem_cons_zero, List.getElem_cons_succ, Act.put, List.setIfInBounds_toArray, List.set_cons_zero, List.set_cons_succ]
    refine wpAnyH_take (i := 13) (v := ?_) rfl (by kernel_rfl) (by kernel_rfl) (by kernel_rfl) (fun _ _ _ h => h) (Or.inl ⟨by kernel_rfl, ?_⟩) hS ?_
    rotate_left
    · intro w' hSw
      obtain ⟨g0, g1, g2, g3, g4, g5, g6, g7, g8, g9, g10, g11, g12, g13, g14⟩ := hSw
      first | (go_simp; done) | (go_simp; with_reducible rfl)
    simp only [List.getElem_toArray, List.getElem_cons_zero, List.getElem_cons_succ, Act.put, List.setIfInBounds_toArray, List.set_cons_zero, List.set_cons_succ]
    refine wpAnyH_take (i := 15) (v := ?_) rfl (by kernel_rfl) (by kernel_rfl) (by kernel_rfl) (fun _ _ _ h => h) (Or.inl ⟨by kernel_rfl, ?_⟩) hS ?_
    rotate_left
    · intro w' hSw
      obtain ⟨g0, g1, g2, g3, g4, g5, g6, g7, g8, g9, g10, g11, g12, g13, g14⟩ := hSw
      first | (go_simp; done) | (go_simp; with_reducible rfl)
    simp only [List.getElem_toArray, List.getElem_cons_zero, List.getElem_cons_succ, Act.put, List.setIfInBounds_toArray, List.set_cons_zero, List.set_cons_succ]
    refine wpAnyH_take (i := 16) (v := ?_) rfl (by kernel_rfl) (by kernel_rfl) (by kernel_rfl) (fun _ _ _ h => h) (Or.inl ⟨by kernel_rfl, ?_⟩) hS ?_
    rotate_left
    · intro w' hSw
      obtain ⟨g0, g1, g2, g3, g4, g5, g6, g7, g8, g9, g10, g11, g12, g13, g14⟩ := hSw
      first | (go_simp; done) | (go_simp; with_reducible rfl)
    simp only [List.getElem_toArray, List.getElem_cons_zero, List.getElem_cons_succ, Act.put, List.setIfInBounds_toArray, List.set_cons_zero, List.set_cons_succ]
    refine wpAnyH_take (i := 18) (v := ?_) rfl (by kernel_rfl) (by kernel_rfl) (by kernel_rfl) (fun _ _ _ h => h) (Or.inl ⟨by kernel_rfl, ?_⟩) hS ?_
    rotate_left
    · intro w' hSw
      obtain ⟨g0, g1, g2, g3, g4, g5, g6, g7, g8, g9, g10, g11, g12, g13, g14⟩ := hSw
      first | (go_simp; done) | (go_simp; with_reducible rfl)
    simp only [List.getElem_toArray, List.getElem_cons_zero, List.getElem_cons_succ, Act.put, List.setIfInBounds_toArray, List.set_cons_zero, List.set_cons_succ]
    refine wpAnyH_take (i := 19) (v := ?_) rfl (by kernel_rfl) (by kernel_rfl) (by kernel_rfl) (fun _ _ _ h => h) (Or.inl ⟨by kernel_rfl, ?_⟩) hS ?_
    rotate_left
    · intro w' hSw
      obtain ⟨g0, g1, g2, g3, g4, g5, g6, g7, g8, g9, g10, g11, g12, g13, g14⟩ := hSw
      first | (go_simp; done) | (go_simp; with_reducible rfl)
    simp only [List.getElem_toArray, List.getElem_cons_zero, List.getElem_cons_succ, Act.put, List.setIfInBounds_toArray, List.set_cons_zero, List.set_cons_succ]
    refine wpAnyH_ready (rs := [6, 7, 11]) (by kernel_rfl) (List.cons_ne_nil _ _) ?_
    refine AllReadyH.cons rfl (fun K hK => ?_) ?_
    · go_simp
      go_at_call 44
      refine (copy_any u n sa sc sl _ (HR.out.1.kept (HW0d.out.k.grown (World.grownBy.refl _ _) (Nat.le_of_eq HCC.out.symm))).s (by omega)).mono ?_
      rintro e u6_ ⟨sa2, sc2, rfl, hg, ho⟩
      have Hu6_ := Lib.hid (HW0d.out.newS hg ho)
      clear hg ho
      refine hK.out _ _ (⟨(Hu6_.out).b1.c 0 rfl, (Hu6_.out).b1.c 1 rfl, (Hu6_.out).b1.c 2 rfl, (Hu6_.out).b1.c 3 rfl, (Hu6_.out).b1.c 4 rfl, (Hu6_.out).b1.c 5 rfl, (Hu6_.out).b1.c 6 rfl, (Hu6_.out).b1.c 7 rfl, (Hu6_.out).b1.c 8 rfl, (Hu6_.out).b1.c 9 rfl, (Hu6_.out).b1.c 10 rfl, (Hu6_.out).b1.c 11 rfl, (Hu6_.out).b1.c 12 rfl, (Hu6_.out).b1.c 13 rfl, (Hu6_.out).b1.c 14 rfl⟩) (fun hS => ?_)
      clear hK
      try simp only [List.getElem_toArray, List.getElem_cons_zero, List.getElem_cons_succ, Act.put, List.setIfInBounds_toArray, List.set_cons_zero, List.set_cons_succ]
      refine wpAnyH_ready (rs := [7, 11]) (by kernel_rfl) (List.cons_ne_nil _ _) ?_
      refine AllReadyH.cons rfl (fun K hK => ?_) ?_
      · go_simp
        have Hu6_7_ := Lib.hid (Hu6_.out.new 73 #[])
        refine hK.out _ _ (⟨(Hu6_7_.out).b2.c 0 rfl, (Hu6_7_.out).b2.c 1 rfl, (Hu6_7_.out).b2.c 2 rfl, (Hu6_7_.out).b2.c 3 rfl, (Hu6_7_.out).b2.c 4 rfl, (Hu6_7_.out).b2.c 5 rfl, (Hu6_7_.out).b2.c 6 rfl, (Hu6_7_.out).b2.c 7 rfl, (Hu6_7_.out).b2.c 8 rfl, (Hu6_7_.out).b2.c 9 rfl, (Hu6_7_.out).b2.c 10 rfl, (Hu6_7_.out).b2.c 11 rfl, (Hu6_7_.out).b2.c 12 rfl, (Hu6_7_.out).b2.c 13 rfl, (Hu6_7_.out).b2.c 14 rfl⟩) (fun hS => ?_)
        generalize u6_.alloc (.cells #[] 73) = u6_7_ at *
        generalize u6_.heap.size = q7 at *
        clear hK
        try simp only [List.getElem_toArray, List.getElem_cons_zero, List.getElem_cons_succ, Act.put, List.setIfInBounds_toArray, List.set_cons_zero, List.set_cons_succ]
        refine wpAnyH_ready (rs := [10, 11]) (by kernel_rfl) (List.cons_ne_nil _ _) ?_
        refine AllReadyH.cons rfl (fun K hK => ?_) ?_
        · refine step_append_srcA (by rfl) _ _ _ (by rfl) C0 73 i2 _ 2 24 Try.underlying51 pi pz0 pz1 pz2 rfl (by decide) _ 0 [] (by rfl) (row_bx 2 Hu6_7_.out.b0 (by have := Hu6_7_.out.lo _ (List.mem_cons_self ..); have := HCC.out; dsimp only at *; omega)) _ gl.length (pksV gl) (by rfl) (src_pk (HR.out.1.kept (Hu6_7_.out.k.grown (World.grownBy.refl _ _) (Nat.le_of_eq HCC.out.symm))).g) (pk_one gl) (by unfold maxLen; omega) (by omega) (by have := Hu6_7_.out.k.size; have := HCC.out; omega) ?_
          intro v10 u6_7_10_ ho hg hat
          rw [Nat.zero_add, List.nil_append] at ho
          obtain ⟨ga2, gc2, rfl⟩ := own_slice ho
          have Hu6_7_10_ := Lib.hid (Hu6_7_.out.boxG ho hg hat)
          clear ho hg hat
          refine hK.out _ _ (⟨(Hu6_7_10_.out).b1.c 0 rfl, (Hu6_7_10_.out).b1.c 1 rfl, (Hu6_7_10_.out).b1.c 2 rfl, (Hu6_7_10_.out).b1.c 3 rfl, (Hu6_7_10_.out).b1.c 4 rfl, (Hu6_7_10_.out).b1.c 5 rfl, (Hu6_7_10_.out).b1.c 6 rfl, (Hu6_7_10_.out).b1.c 7 rfl, (Hu6_7_10_.out).b1.c 8 rfl, (Hu6_7_10_.out).b1.c 9 rfl, (Hu6_7_10_.out).b1.c 10 rfl, (Hu6_7_10_.out).b1.c 11 rfl, (Hu6_7_10_.out).b1.c 12 rfl, (Hu6_7_10_.out).b1.c 13 rfl, (Hu6_7_10_.out).b1.c 14 rfl⟩) (fun hS => ?_)
          clear hK
          try simp only [List.getElem_toArray, List.getElem_cons_zero, List.getElem_cons_succ, Act.put, List.setIfInBounds_toArray, List.set_cons_zero, List.set_cons_succ]
          refine wpAnyH_ready (rs := [11]) (by kernel_rfl) (List.cons_ne_nil _ _) ?_
          refine AllReadyH.cons rfl (fun K hK => ?_) AllReadyH.nil
          go_simp
          have Hu6_7_10_11_ := Lib.hid (Hu6_7_10_.out.emptyD (World.grownBy_alloc _ _ _) (Nat.le_refl _) (World.alloc_heap_new u6_7_10_ _))
          refine hK.out _ _ (⟨(Hu6_7_10_11_.out).b1.c 0 rfl, (Hu6_7_10_11_.out).b1.c 1 rfl, (Hu6_7_10_11_.out).b1.c 2 rfl, (Hu6_7_10_11_.out).b1.c 3 rfl, (Hu6_7_10_11_.out).b1.c 4 rfl, (Hu6_7_10_11_.out).b1.c 5 rfl, (Hu6_7_10_11_.out).b1.c 6 rfl, (Hu6_7_10_11_.out).b1.c 7 rfl, (Hu6_7_10_11_.out).b1.c 8 rfl, (Hu6_7_10_11_.out).b1.c 9 rfl, (Hu6_7_10_11_.out).b1.c 10 rfl, (Hu6_7_10_11_.out).b1.c 11 rfl, (Hu6_7_10_11_.out).b1.c 12 rfl, (Hu6_7_10_11_.out).b1.c 13 rfl, (Hu6_7_10_11_.out).b1.c 14 rfl⟩) (fun hS => ?_)
          generalize u6_7_10_.alloc (.cells #[] 44) = u6_7_10_11_ at *
          generalize u6_7_10_.heap.size = q11 at *
          clear hK
          try simp only [List.getElem_toArray, List.getElem_cons_zero, List.getElem_cons_succ, Act.put, List.setIfInBounds_toArray, List.set_cons_zero, List.set_cons_succ]
          refine wpAnyH_ready (rs := [14]) (by kernel_rfl) (List.cons_ne_nil _ _) ?_
          refine AllReadyH.cons rfl (fun K hK => ?_) AllReadyH.nil
          refine step_append_srcA (by rfl) _ _ _ (by rfl) C0 44 i0 _ 2 16 Try.underlying31 hi hz0 hz1 hz2 rfl (by decide) _ 0 [] (by rfl) Hu6_7_10_11_.out.l.d _ dl.length (rgsV dl) (by rfl) (src_rg (HR.out.1.kept (Hu6_7_10_11_.out.k.grown (World.grownBy.refl _ _) (Nat.le_of_eq HCC.out.symm))).d) (rgsV_one dl) (by unfold maxLen; omega) (by omega) (by have := Hu6_7_10_11_.out.k.size; have := HCC.out; omega) ?_
          intro v14 u6_7_10_11_14_ ho hg hat
          rw [Nat.zero_add, List.nil_append] at ho
          obtain ⟨da2, dc2, rfl⟩ := own_slice ho
          have Hu6_7_10_11_14_ := Lib.hid (Hu6_7_10_11_.out.growD ho hg hat)
          clear ho hg hat
          refine hK.out _ _ (⟨(Hu6_7_10_11_14_.out).b1.c 0 rfl, (Hu6_7_10_11_14_.out).b1.c 1 rfl, (Hu6_7_10_11_14_.out).b1.c 2 rfl, (Hu6_7_10_11_14_.out).b1.c 3 rfl, (Hu6_7_10_11_14_.out).b1.c 4 rfl, (Hu6_7_10_11_14_.out).b1.c 5 rfl, (Hu6_7_10_11_14_.out).b1.c 6 rfl, (Hu6_7_10_11_14_.out).b1.c 7 rfl, (Hu6_7_10_11_14_.out).b1.c 8 rfl, (Hu6_7_10_11_14_.out).b1.c 9 rfl, (Hu6_7_10_11_14_.out).b1.c 10 rfl, (Hu6_7_10_11_14_.out).b1.c 11 rfl, (Hu6_7_10_11_14_.out).b1.c 12 rfl, (Hu6_7_10_11_14_.out).b1.c 13 rfl, (Hu6_7_10_11_14_.out).b1.c 14 rfl⟩) (fun hS => ?_)
          clear hK
          try simp only [List.getElem_toArray, List.getElem_cons_zero, List.getElem_cons_succ, Act.put, List.setIfInBounds_toArray, List.set_cons_zero, List.set_cons_succ]
          exact tail sa2 sc2 q7 ga2 gc2 q11 da2 dc2 u6_7_10_11_14_ Hu6_7_10_11_14_.out
        refine AllReadyH.cons rfl (fun K hK => ?_) ?_
        · go_simp
          have Hu6_7_11_ := Lib.hid (Hu6_7_.out.emptyD (World.grownBy_alloc _ _ _) (Nat.le_refl _) (World.alloc_heap_new u6_7_ _))
          refine hK.out _ _ (⟨(Hu6_7_11_.out).b2.c 0 rfl, (Hu6_7_11_.out).b2.c 1 rfl, (Hu6_7_11_.out).b2.c 2 rfl, (Hu6_7_11_.out).b2.c 3 rfl, (Hu6_7_11_.out).b2.c 4 rfl, (Hu6_7_11_.out).b2.c 5 rfl, (Hu6_7_11_.out).b2.c 6 rfl, (Hu6_7_11_.out).b2.c 7 rfl, (Hu6_7_11_.out).b2.c 8 rfl, (Hu6_7_11_.out).b2.c 9 rfl, (Hu6_7_11_.out).b2.c 10 rfl, (Hu6_7_11_.out).b2.c 11 rfl, (Hu6_7_11_.out).b2.c 12 rfl, (Hu6_7_11_.out).b2.c 13 rfl, (Hu6_7_11_.out).b2.c 14 rfl⟩) (fun hS => ?_)
          generalize u6_7_.alloc (.cells #[] 44) = u6_7_11_ at *
          generalize u6_7_.heap.size = q11 at *
          clear hK
          try simp only [List.getElem_toArray, List.getElem_cons_zero, List.getElem_cons_succ, Act.put, List.setIfInBounds_toArray, List.set_cons_zero, List.set_cons_succ]
          refine wpAnyH_ready (rs := [10]) (by kernel_rfl) (List.cons_ne_nil _ _) ?_
          refine AllReadyH.cons rfl (fun K hK => ?_) AllReadyH.nil
          refine step_append_srcA (by rfl) _ _ _ (by rfl) C0 73 i2 _ 2 24 Try.underlying51 pi pz0 pz1 pz2 rfl (by decide) _ 0 [] (by rfl) (row_bx 2 Hu6_7_11_.out.b0 (by have := Hu6_7_11_.out.lo _ (List.mem_cons_self ..); have := HCC.out; dsimp only at *; omega)) _ gl.length (pksV gl) (by rfl) (src_pk (HR.out.1.kept (Hu6_7_11_.out.k.grown (World.grownBy.refl _ _) (Nat.le_of_eq HCC.out.symm))).g) (pk_one gl) (by unfold maxLen; omega) (by omega) (by have := Hu6_7_11_.out.k.size; have := HCC.out; omega) ?_
          intro v10 u6_7_10_11_ ho hg hat
          rw [Nat.zero_add, List.nil_append] at ho
          obtain ⟨ga2, gc2, rfl⟩ := own_slice ho
          have Hu6_7_10_11_ := Lib.hid (Hu6_7_11_.out.boxG ho hg hat)
          clear ho hg hat
          refine hK.out _ _ (⟨(Hu6_7_10_11_.out).b1.c 0 rfl, (Hu6_7_10_11_.out).b1.c 1 rfl, (Hu6_7_10_11_.out).b1.c 2 rfl, (Hu6_7_10_11_.out).b1.c 3 rfl, (Hu6_7_10_11_.out).b1.c 4 rfl, (Hu6_7_10_11_.out).b1.c 5 rfl, (Hu6_7_10_11_.out).b1.c 6 rfl, (Hu6_7_10_11_.out).b1.c 7 rfl, (Hu6_7_10_11_.out).b1.c 8 rfl, (Hu6_7_10_11_.out).b1.c 9 rfl, (Hu6_7_10_11_.out).b1.c 10 rfl, (Hu6_7_10_11_.out).b1.c 11 rfl, (Hu6_7_10_11_.out).b1.c 12 rfl, (Hu6_7_10_11_.out).b1.c 13 rfl, (Hu6_7_10_11_.out).b1.c 14 rfl⟩) (fun hS => ?_)
          clear hK
          try simp only [List.getElem_toArray, List.getElem_cons_zero, List.getElem_cons_succ, Act.put, List.setIfInBounds_toArray, List.set_cons_zero, List.set_cons_succ]
          refine wpAnyH_ready (rs := [14]) (by kernel_rfl) (List.cons_ne_nil _ _) ?_
          refine AllReadyH.cons rfl (fun K hK => ?_) AllReadyH.nil
          refine step_append_srcA (by rfl) _ _ _ (by rfl) C0 44 i0 _ 2 16 Try.underlying31 hi hz0 hz1 hz2 rfl (by decide) _ 0 [] (by rfl) Hu6_7_10_11_.out.l.d _ dl.length (rgsV dl) (by rfl) (src_rg (HR.out.1.kept (Hu6_7_10_11_.out.k.grown (World.grownBy.refl _ _) (Nat.le_of_eq HCC.out.symm))).d) (rgsV_one dl) (by unfold maxLen; omega) (by omega) (by have := Hu6_7_10_11_.out.k.size; have := HCC.out; omega) ?_
          intro v14 u6_7_10_11_14_ ho hg hat
          rw [Nat.zero_add, List.nil_append] at ho
          obtain ⟨da2, dc2, rfl⟩ := own_slice ho
          have Hu6_7_10_11_14_ := Lib.hid (Hu6_7_10_11_.out.growD ho hg hat)
          clear ho hg hat
          refine hK.out _ _ (⟨(Hu6_7_10_11_14_.out).b1.c 0 rfl, (Hu6_7_10_11_14_.out).b1.c 1 rfl, (Hu6_7_10_11_14_.out).b1.c 2 rfl, (Hu6_7_10_11_14_.out).b1.c 3 rfl, (Hu6_7_10_11_14_.out).b1.c 4 rfl, (Hu6_7_10_11_14_.out).b1.c 5 rfl, (Hu6_7_10_11_14_.out).b1.c 6 rfl, (Hu6_7_10_11_14_.out).b1.c 7 rfl, (Hu6_7_10_11_14_.out).b1.c 8 rfl, (Hu6_7_10_11_14_.out).b1.c 9 rfl, (Hu6_7_10_11_14_.out).b1.c 10 rfl, (Hu6_7_10_11_14_.out).b1.c 11 rfl, (Hu6_7_10_11_14_.out).b1.c 12 rfl, (Hu6_7_10_11_14_.out).b1.c 13 rfl, (Hu6_7_10_11_14_.out).b1.c 14 rfl⟩) (fun hS => ?_)
          clear hK
          try simp only [List.getElem_toArray, List.getElem_cons_zero, List.getElem_cons_succ, Act.put, List.setIfInBounds_toArray, List.set_cons_zero, List.set_cons_succ]
          exact tail sa2 sc2 q7 ga2 gc2 q11 da2 dc2 u6_7_10_11_14_ Hu6_7_10_11_14_.out
        exact AllReadyH.nil
      refine AllReadyH.cons rfl (fun K hK => ?_) ?_
      · go_simp
        have Hu6_11_ := Lib.hid (Hu6_.out.emptyD (World.grownBy_alloc _ _ _) (Nat.le_refl _) (World.alloc_heap_new u6_ _))
        refine hK.out _ _ (⟨(Hu6_11_.out).b1.c 0 rfl, (Hu6_11_.out).b1.c 1 rfl, (Hu6_11_.out).b1.c 2 rfl, (Hu6_11_.out).b1.c 3 rfl, (Hu6_11_.out).b1.c 4 rfl, (Hu6_11_.out).b1.c 5 rfl, (Hu6_11_.out).b1.c 6 rfl, (Hu6_11_.out).b1.c 7 rfl, (Hu6_11_.out).b1.c 8 rfl, (Hu6_11_.out).b1.c 9 rfl, (Hu6_11_.out).b1.c 10 rfl, (Hu6_11_.out).b1.c 11 rfl, (Hu6_11_.out).b1.c 12 rfl, (Hu6_11_.out).b1.c 13 rfl, (Hu6_11_.out).b1.c 14 rfl⟩) (fun hS => ?_)
        generalize u6_.alloc (.cells #[] 44) = u6_11_ at *
        generalize u6_.heap.size = q11 at *
        clear hK
        try simp only [List.getElem_toArray, List.getElem_cons_zero, List.getElem_cons_succ, Act.put, List.setIfInBounds_toArray, List.set_cons_zero, List.set_cons_succ]
        refine wpAnyH_ready (rs := [7]) (by kernel_rfl) (List.cons_ne_nil _ _) ?_
        refine AllReadyH.cons rfl (fun K hK => ?_) AllReadyH.nil
        go_simp
        have Hu6_7_11_ := Lib.hid (Hu6_11_.out.new 73 #[])
        refine hK.out _ _ (⟨(Hu6_7_11_.out).b2.c 0 rfl, (Hu6_7_11_.out).b2.c 1 rfl, (Hu6_7_11_.out).b2.c 2 rfl, (Hu6_7_11_.out).b2.c 3 rfl, (Hu6_7_11_.out).b2.c 4 rfl, (Hu6_7_11_.out).b2.c 5 rfl, (Hu6_7_11_.out).b2.c 6 rfl, (Hu6_7_11_.out).b2.c 7 rfl, (Hu6_7_11_.out).b2.c 8 rfl, (Hu6_7_11_.out).b2.c 9 rfl, (Hu6_7_11_.out).b2.c 10 rfl, (Hu6_7_11_.out).b2.c 11 rfl, (Hu6_7_11_.out).b2.c 12 rfl, (Hu6_7_11_.out).b2.c 13 rfl, (Hu6_7_11_.out).b2.c 14 rfl⟩) (fun hS => ?_)
        generalize u6_11_.alloc (.cells #[] 73) = u6_7_11_ at *
        generalize u6_11_.heap.size = q7 at *
        clear hK
        try simp only [List.getElem_toArray, List.getElem_cons_zero, List.getElem_cons_succ, Act.put, List.setIfInBounds_toArray, List.set_cons_zero, List.set_cons_succ]
        refine wpAnyH_ready (rs := [10]) (by kernel_rfl) (List.cons_ne_nil _ _) ?_
        refine AllReadyH.cons rfl (fun K hK => ?_) AllReadyH.nil
        refine step_append_srcA (by rfl) _ _ _ (by rfl) C0 73 i2 _ 2 24 Try.underlying51 pi pz0 pz1 pz2 rfl (by decide) _ 0 [] (by rfl) (row_bx 2 Hu6_7_11_.out.b0 (by have := Hu6_7_11_.out.lo _ (List.mem_cons_self ..); have := HCC.out; dsimp only at *; omega)) _ gl.length (pksV gl) (by rfl) (src_pk (HR.out.1.kept (Hu6_7_11_.out.k.grown (World.grownBy.refl _ _) (Nat.le_of_eq HCC.out.symm))).g) (pk_one gl) (by unfold maxLen; omega) (by omega) (by have := Hu6_7_11_.out.k.size; have := HCC.out; omega) ?_
        intro v10 u6_7_10_11_ ho hg hat
        rw [Nat.zero_add, List.nil_append] at ho
        obtain ⟨ga2, gc2, rfl⟩ := own_slice ho
        have Hu6_7_10_11_ := Lib.hid (Hu6_7_11_.out.boxG ho hg hat)
        clear ho hg hat
        refine hK.out _ _ (⟨(Hu6_7_10_11_.out).b1.c 0 rfl, (Hu6_7_10_11_.out).b1.c 1 rfl, (Hu6_7_10_11_.out).b1.c 2 rfl, (Hu6_7_10_11_.out).b1.c 3 rfl, (Hu6_7_10_11_.out).b1.c 4 rfl, (Hu6_7_10_11_.out).b1.c 5 rfl, (Hu6_7_10_11_.out).b1.c 6 rfl, (Hu6_7_10_11_.out).b1.c 7 rfl, (Hu6_7_10_11_.out).b1.c 8 rfl, (Hu6_7_10_11_.out).b1.c 9 rfl, (Hu6_7_10_11_.out).b1.c 10 rfl, (Hu6_7_10_11_.out).b1.c 11 rfl, (Hu6_7_10_11_.out).b1.c 12 rfl, (Hu6_7_10_11_.out).b1.c 13 rfl, (Hu6_7_10_11_.out).b1.c 14 rfl⟩) (fun hS => ?_)
        clear hK
        try simp only [List.getElem_toArray, List.getElem_cons_zero, List.getElem_cons_succ, Act.put, List.setIfInBounds_toArray, List.set_cons_zero, List.set_cons_succ]
        refine wpAnyH_ready (rs := [14]) (by kernel_rfl) (List.cons_ne_nil _ _) ?_
        refine AllReadyH.cons rfl (fun K hK => ?_) AllReadyH.nil
        refine step_append_srcA (by rfl) _ _ _ (by rfl) C0 44 i0 _ 2 16 Try.underlying31 hi hz0 hz1 hz2 rfl (by decide) _ 0 [] (by rfl) Hu6_7_10_11_.out.l.d _ dl.length (rgsV dl) (by rfl) (src_rg (HR.out.1.kept (Hu6_7_10_11_.out.k.grown (World.grownBy.refl _ _) (Nat.le_of_eq HCC.out.symm))).d) (rgsV_one dl) (by unfold maxLen; omega) (by omega) (by have := Hu6_7_10_11_.out.k.size; have := HCC.out; omega) ?_
        intro v14 u6_7_10_11_14_ ho hg hat
        rw [Nat.zero_add, List.nil_append] at ho
        obtain ⟨da2, dc2, rfl⟩ := own_slice ho
        have Hu6_7_10_11_14_ := Lib.hid (Hu6_7_10_11_.out.growD ho hg hat)
        clear ho hg hat
        refine hK.out _ _ (⟨(Hu6_7_10_11_14_.out).b1.c 0 rfl, (Hu6_7_10_11_14_.out).b1.c 1 rfl, (Hu6_7_10_11_14_.out).b1.c 2 rfl, (Hu6_7_10_11_14_.out).b1.c 3 rfl, (Hu6_7_10_11_14_.out).b1.c 4 rfl, (Hu6_7_10_11_14_.out).b1.c 5 rfl, (Hu6_7_10_11_14_.out).b1.c 6 rfl, (Hu6_7_10_11_14_.out).b1.c 7 rfl, (Hu6_7_10_11_14_.out).b1.c 8 rfl, (Hu6_7_10_11_14_.out).b1.c 9 rfl, (Hu6_7_10_11_14_.out).b1.c 10 rfl, (Hu6_7_10_11_14_.out).b1.c 11 rfl, (Hu6_7_10_11_14_.out).b1.c 12 rfl, (Hu6_7_10_11_14_.out).b1.c 13 rfl, (Hu6_7_10_11_14_.out).b1.c 14 rfl⟩) (fun hS => ?_)
        clear hK
        try simp only [List.getElem_toArray, List.getElem_cons_zero, List.getElem_cons_succ, Act.put, List.setIfInBounds_toArray, List.set_cons_zero, List.set_cons_succ]
        exact tail sa2 sc2 q7 ga2 gc2 q11 da2 dc2 u6_7_10_11_14_ Hu6_7_10_11_14_.out
      exact AllReadyH.nil
    refine AllReadyH.cons rfl (fun K hK => ?_) ?_
    · go_simp
      have Hu7_ := Lib.hid ((H0.out.new 73 #[]).keep (W' := (W0.alloc (.cells #[] 73)).drew) grownBy_drew)
      refine hK.out _ _ (⟨(Hu7_.out).b2.c 0 rfl, (Hu7_.out).b2.c 1 rfl, (Hu7_.out).b2.c 2 rfl, (Hu7_.out).b2.c 3 rfl, (Hu7_.out).b2.c 4 rfl, (Hu7_.out).b2.c 5 rfl, (Hu7_.out).b2.c 6 rfl, (Hu7_.out).b2.c 7 rfl, (Hu7_.out).b2.c 8 rfl, (Hu7_.out).b2.c 9 rfl, (Hu7_.out).b2.c 10 rfl, (Hu7_.out).b2.c 11 rfl, (Hu7_.out).b2.c 12 rfl, (Hu7_.out).b2.c 13 rfl, (Hu7_.out).b2.c 14 rfl⟩) (fun hS => ?_)
      generalize (W0.alloc (.cells #[] 73)).drew = u7_ at *
      generalize W0.heap.size = q7 at *
      clear hK
      try simp only [List.getElem_toArray, List.getElem_cons_zero, List.getElem_cons_succ, Act.put, List.setIfInBounds_toArray, List.set_cons_zero, List.set_cons_succ]
      refine wpAnyH_ready (rs := [6, 11]) (by kernel_rfl) (List.cons_ne_nil _ _) ?_
      refine AllReadyH.cons rfl (fun K hK => ?_) ?_
      · go_simp
        go_at_call 44
        refine (copy_any u n sa sc sl _ (HR.out.1.kept (Hu7_.out.k.grown (World.grownBy.refl _ _) (Nat.le_of_eq HCC.out.symm))).s (by omega)).mono ?_
        rintro e u6_7_ ⟨sa2, sc2, rfl, hg, ho⟩
        have Hu6_7_ := Lib.hid (Hu7_.out.newS hg ho)
        clear hg ho
        refine hK.out _ _ (⟨(Hu6_7_.out).b2.c 0 rfl, (Hu6_7_.out).b2.c 1 rfl, (Hu6_7_.out).b2.c 2 rfl, (Hu6_7_.out).b2.c 3 rfl, (Hu6_7_.out).b2.c 4 rfl, (Hu6_7_.out).b2.c 5 rfl, (Hu6_7_.out).b2.c 6 rfl, (Hu6_7_.out).b2.c 7 rfl, (Hu6_7_.out).b2.c 8 rfl, (Hu6_7_.out).b2.c 9 rfl, (Hu6_7_.out).b2.c 10 rfl, (Hu6_7_.out).b2.c 11 rfl, (Hu6_7_.out).b2.c 12 rfl, (Hu6_7_.out).b2.c 13 rfl, (Hu6_7_.out).b2.c 14 rfl⟩) (fun hS => ?_)
        clear hK
        try simp only [List.getElem_toArray, List.getElem_cons_zero, List.getElem_cons_succ, Act.put, List.setIfInBounds_toArray, List.set_cons_zero, List.set_cons_succ]
        refine wpAnyH_ready (rs := [10, 11]) (by kernel_rfl) (List.cons_ne_nil _ _) ?_
        refine AllReadyH.cons rfl (fun K hK => ?_) ?_
        · refine step_append_srcA (by rfl) _ _ _ (by rfl) C0 73 i2 _ 2 24 Try.underlying51 pi pz0 pz1 pz2 rfl (by decide) _ 0 [] (by rfl) (row_bx 2 Hu6_7_.out.b0 (by have := Hu6_7_.out.lo _ (List.mem_cons_self ..); have := HCC.out; dsimp only at *; omega)) _ gl.length (pksV gl) (by rfl) (src_pk (HR.out.1.kept (Hu6_7_.out.k.grown (World.grownBy.refl _ _) (Nat.le_of_eq HCC.out.symm))).g) (pk_one gl) (by unfold maxLen; omega) (by omega) (by have := Hu6_7_.out.k.size; have := HCC.out; omega) ?_
          intro v10 u6_7_10_ ho hg hat
          rw [Nat.zero_add, List.nil_append] at ho
          obtain ⟨ga2, gc2, rfl⟩ := own_slice ho
          have Hu6_7_10_ := Lib.hid (Hu6_7_.out.boxG ho hg hat)
          clear ho hg hat
          refine hK.out _ _ (⟨(Hu6_7_10_.out).b1.c 0 rfl, (Hu6_7_10_.out).b1.c 1 rfl, (Hu6_7_10_.out).b1.c 2 rfl, (Hu6_7_10_.out).b1.c 3 rfl, (Hu6_7_10_.out).b1.c 4 rfl, (Hu6_7_10_.out).b1.c 5 rfl, (Hu6_7_10_.out).b1.c 6 rfl, (Hu6_7_10_.out).b1.c 7 rfl, (Hu6_7_10_.out).b1.c 8 rfl, (Hu6_7_10_.out).b1.c 9 rfl, (Hu6_7_10_.out).b1.c 10 rfl, (Hu6_7_10_.out).b1.c 11 rfl, (Hu6_7_10_.out).b1.c 12 rfl, (Hu6_7_10_.out).b1.c 13 rfl, (Hu6_7_10_.out).b1.c 14 rfl⟩) (fun hS => ?_)
          clear hK
          try simp only [List.getElem_toArray, List.getElem_cons_zero, List.getElem_cons_succ, Act.put, List.setIfInBounds_toArray, List.set_cons_zero, List.set_cons_succ]
          refine wpAnyH_ready (rs := [11]) (by kernel_rfl) (List.cons_ne_nil _ _) ?_
          refine AllReadyH.cons rfl (fun K hK => ?_) AllReadyH.nil
          go_simp
          have Hu6_7_10_11_ := Lib.hid (Hu6_7_10_.out.emptyD (World.grownBy_alloc _ _ _) (Nat.le_refl _) (World.alloc_heap_new u6_7_10_ _))
          refine hK.out _ _ (⟨(Hu6_7_10_11_.out).b1.c 0 rfl, (Hu6_7_10_11_.out).b1.c 1 rfl, (Hu6_7_10_11_.out).b1.c 2 rfl, (Hu6_7_10_11_.out).b1.c 3 rfl, (Hu6_7_10_11_.out).b1.c 4 rfl, (Hu6_7_10_11_.out).b1.c 5 rfl, (Hu6_7_10_11_.out).b1.c 6 rfl, (Hu6_7_10_11_.out).b1.c 7 rfl, (Hu6_7_10_11_.out).b1.c 8 rfl, (Hu6_7_10_11_.out).b1.c 9 rfl, (Hu6_7_10_11_.out).b1.c 10 rfl, (Hu6_7_10_11_.out).b1.c 11 rfl, (Hu6_7_10_11_.out).b1.c 12 rfl, (Hu6_7_10_11_.out).b1.c 13 rfl, (Hu6_7_10_11_.out).b1.c 14 rfl⟩) (fun hS => ?_)
          generalize u6_7_10_.alloc (.cells #[] 44) = u6_7_10_11_ at *
          generalize u6_7_10_.heap.size = q11 at *
          clear hK
          try simp only [List.getElem_toArray, List.getElem_cons_zero, List.getElem_cons_succ, Act.put, List.setIfInBounds_toArray, List.set_cons_zero, List.set_cons_succ]
          refine wpAnyH_ready (rs := [14]) (by kernel_rfl) (List.cons_ne_nil _ _) ?_
          refine AllReadyH.cons rfl (fun K hK => ?_) AllReadyH.nil
          refine step_append_srcA (by rfl) _ _ _ (by rfl) C0 44 i0 _ 2 16 Try.underlying31 hi hz0 hz1 hz2 rfl (by decide) _ 0 [] (by rfl) Hu6_7_10_11_.out.l.d _ dl.length (rgsV dl) (by rfl) (src_rg (HR.out.1.kept (Hu6_7_10_11_.out.k.grown (World.grownBy.refl _ _) (Nat.le_of_eq HCC.out.symm))).d) (rgsV_one dl) (by unfold maxLen; omega) (by omega) (by have := Hu6_7_10_11_.out.k.size; have := HCC.out; omega) ?_
          intro v14 u6_7_10_11_14_ ho hg hat
          rw [Nat.zero_add, List.nil_append] at ho
          obtain ⟨da2, dc2, rfl⟩ := own_slice ho
          have Hu6_7_10_11_14_ := Lib.hid (Hu6_7_10_11_.out.growD ho hg hat)
          clear ho hg hat
          refine hK.out _ _ (⟨(Hu6_7_10_11_14_.out).b1.c 0 rfl, (Hu6_7_10_11_14_.out).b1.c 1 rfl, (Hu6_7_10_11_14_.out).b1.c 2 rfl, (Hu6_7_10_11_14_.out).b1.c 3 rfl, (Hu6_7_10_11_14_.out).b1.c 4 rfl, (Hu6_7_10_11_14_.out).b1.c 5 rfl, (Hu6_7_10_11_14_.out).b1.c 6 rfl, (Hu6_7_10_11_14_.out).b1.c 7 rfl, (Hu6_7_10_11_14_.out).b1.c 8 rfl, (Hu6_7_10_11_14_.out).b1.c 9 rfl, (Hu6_7_10_11_14_.out).b1.c 10 rfl, (Hu6_7_10_11_14_.out).b1.c 11 rfl, (Hu6_7_10_11_14_.out).b1.c 12 rfl, (Hu6_7_10_11_14_.out).b1.c 13 rfl, (Hu6_7_10_11_14_.out).b1.c 14 rfl⟩) (fun hS => ?_)
          clear hK
          try simp only [List.getElem_toArray, List.getElem_cons_zero, List.getElem_cons_succ, Act.put, List.setIfInBounds_toArray, List.set_cons_zero, List.set_cons_succ]
          exact tail sa2 sc2 q7 ga2 gc2 q11 da2 dc2 u6_7_10_11_14_ Hu6_7_10_11_14_.out
        refine AllReadyH.cons rfl (fun K hK => ?_) ?_
        · go_simp
          have Hu6_7_11_ := Lib.hid (Hu6_7_.out.emptyD (World.grownBy_alloc _ _ _) (Nat.le_refl _) (World.alloc_heap_new u6_7_ _))
          refine hK.out _ _ (⟨(Hu6_7_11_.out).b2.c 0 rfl, (Hu6_7_11_.out).b2.c 1 rfl, (Hu6_7_11_.out).b2.c 2 rfl, (Hu6_7_11_.out).b2.c 3 rfl, (Hu6_7_11_.out).b2.c 4 rfl, (Hu6_7_11_.out).b2.c 5 rfl, (Hu6_7_11_.out).b2.c 6 rfl, (Hu6_7_11_.out).b2.c 7 rfl, (Hu6_7_11_.out).b2.c 8 rfl, (Hu6_7_11_.out).b2.c 9 rfl, (Hu6_7_11_.out).b2.c 10 rfl, (Hu6_7_11_.out).b2.c 11 rfl, (Hu6_7_11_.out).b2.c 12 rfl, (Hu6_7_11_.out).b2.c 13 rfl, (Hu6_7_11_.out).b2.c 14 rfl⟩) (fun hS => ?_)
          generalize u6_7_.alloc (.cells #[] 44) = u6_7_11_ at *
          generalize u6_7_.heap.size = q11 at *
          clear hK
          try simp only [List.getElem_toArray, List.getElem_cons_zero, List.getElem_cons_succ, Act.put, List.setIfInBounds_toArray, List.set_cons_zero, List.set_cons_succ]
          refine wpAnyH_ready (rs := [10]) (by kernel_rfl) (List.cons_ne_nil _ _) ?_
          refine AllReadyH.cons rfl (fun K hK => ?_) AllReadyH.nil
          refine step_append_srcA (by rfl) _ _ _ (by rfl) C0 73 i2 _ 2 24 Try.underlying51 pi pz0 pz1 pz2 rfl (by decide) _ 0 [] (by rfl) (row_bx 2 Hu6_7_11_.out.b0 (by have := Hu6_7_11_.out.lo _ (List.mem_cons_self ..); have := HCC.out; dsimp only at *; omega)) _ gl.length (pksV gl) (by rfl) (src_pk (HR.out.1.kept (Hu6_7_11_.out.k.grown (World.grownBy.refl _ _) (Nat.le_of_eq HCC.out.symm))).g) (pk_one gl) (by unfold maxLen; omega) (by omega) (by have := Hu6_7_11_.out.k.size; have := HCC.out; omega) ?_
          intro v10 u6_7_10_11_ ho hg hat
          rw [Nat.zero_add, List.nil_append] at ho
          obtain ⟨ga2, gc2, rfl⟩ := own_slice ho
          have Hu6_7_10_11_ := Lib.hid (Hu6_7_11_.out.boxG ho hg hat)
          clear ho hg hat
          refine hK.out _ _ (⟨(Hu6_7_10_11_.out).b1.c 0 rfl, (Hu6_7_10_11_.out).b1.c 1 rfl, (Hu6_7_10_11_.out).b1.c 2 rfl, (Hu6_7_10_11_.out).b1.c 3 rfl, (Hu6_7_10_11_.out).b1.c 4 rfl, (Hu6_7_10_11_.out).b1.c 5 rfl, (Hu6_7_10_11_.out).b1.c 6 rfl, (Hu6_7_10_11_.out).b1.c 7 rfl, (Hu6_7_10_11_.out).b1.c 8 rfl, (Hu6_7_10_11_.out).b1.c 9 rfl, (Hu6_7_10_11_.out).b1.c 10 rfl, (Hu6_7_10_11_.out).b1.c 11 rfl, (Hu6_7_10_11_.out).b1.c 12 rfl, (Hu6_7_10_11_.out).b1.c 13 rfl, (Hu6_7_10_11_.out).b1.c 14 rfl⟩) (fun hS => ?_)
          clear hK
          try simp only [List.getElem_toArray, List.getElem_cons_zero, List.getElem_cons_succ, Act.put, List.setIfInBounds_toArray, List.set_cons_zero, List.set_cons_succ]
          refine wpAnyH_ready (rs := [14]) (by kernel_rfl) (List.cons_ne_nil _ _) ?_
          refine AllReadyH.cons rfl (fun K hK => ?_) AllReadyH.nil
          refine step_append_srcA (by rfl) _ _ _ (by rfl) C0 44 i0 _ 2 16 Try.underlying31 hi hz0 hz1 hz2 rfl (by decide) _ 0 [] (by rfl) Hu6_7_10_11_.out.l.d _ dl.length (rgsV dl) (by rfl) (src_rg (HR.out.1.kept (Hu6_7_10_11_.out.k.grown (World.grownBy.refl _ _) (Nat.le_of_eq HCC.out.symm))).d) (rgsV_one dl) (by unfold maxLen; omega) (by omega) (by have := Hu6_7_10_11_.out.k.size; have := HCC.out; omega) ?_
          intro v14 u6_7_10_11_14_ ho hg hat
          rw [Nat.zero_add, List.nil_append] at ho
          obtain ⟨da2, dc2, rfl⟩ := own_slice ho
          have Hu6_7_10_11_14_ := Lib.hid (Hu6_7_10_11_.out.growD ho hg hat)
          clear ho hg hat
          refine hK.out _ _ (⟨(Hu6_7_10_11_14_.out).b1.c 0 rfl, (Hu6_7_10_11_14_.out).b1.c 1 rfl, (Hu6_7_10_11_14_.out).b1.c 2 rfl, (Hu6_7_10_11_14_.out).b1.c 3 rfl, (Hu6_7_10_11_14_.out).b1.c 4 rfl, (Hu6_7_10_11_14_.out).b1.c 5 rfl, (Hu6_7_10_11_14_.out).b1.c 6 rfl, (Hu6_7_10_11_14_.out).b1.c 7 rfl, (Hu6_7_10_11_14_.out).b1.c 8 rfl, (Hu6_7_10_11_14_.out).b1.c 9 rfl, (Hu6_7_10_11_14_.out).b1.c 10 rfl, (Hu6_7_10_11_14_.out).b1.c 11 rfl, (Hu6_7_10_11_14_.out).b1.c 12 rfl, (Hu6_7_10_11_14_.out).b1.c 13 rfl, (Hu6_7_10_11_14_.out).b1.c 14 rfl⟩) (fun hS => ?_)
          clear hK
          try simp only [List.getElem_toArray, List.getElem_cons_zero, List.getElem_cons_succ, Act.put, List.setIfInBounds_toArray, List.set_cons_zero, List.set_cons_succ]
          exact tail sa2 sc2 q7 ga2 gc2 q11 da2 dc2 u6_7_10_11_14_ Hu6_7_10_11_14_.out
        exact AllReadyH.nil
      refine AllReadyH.cons rfl (fun K hK => ?_) ?_
      · go_simp
        have Hu7_11_ := Lib.hid (Hu7_.out.emptyD (World.grownBy_alloc _ _ _) (Nat.le_refl _) (World.alloc_heap_new u7_ _))
        refine hK.out _ _ (⟨(Hu7_11_.out).b2.c 0 rfl, (Hu7_11_.out).b2.c 1 rfl, (Hu7_11_.out).b2.c 2 rfl, (Hu7_11_.out).b2.c 3 rfl, (Hu7_11_.out).b2.c 4 rfl, (Hu7_11_.out).b2.c 5 rfl, (Hu7_11_.out).b2.c 6 rfl, (Hu7_11_.out).b2.c 7 rfl, (Hu7_11_.out).b2.c 8 rfl, (Hu7_11_.out).b2.c 9 rfl, (Hu7_11_.out).b2.c 10 rfl, (Hu7_11_.out).b2.c 11 rfl, (Hu7_11_.out).b2.c 12 rfl, (Hu7_11_.out).b2.c 13 rfl, (Hu7_11_.out).b2.c 14 rfl⟩) (fun hS => ?_)
        generalize u7_.alloc (.cells #[] 44) = u7_11_ at *
        generalize u7_.heap.size = q11 at *
        clear hK
        try simp only [List.getElem_toArray, List.getElem_cons_zero, List.getElem_cons_succ, Act.put, List.setIfInBounds_toArray, List.set_cons_zero, List.set_cons_succ]
        refine wpAnyH_ready (rs := [6]) (by kernel_rfl) (List.cons_ne_nil _ _) ?_
        refine AllReadyH.cons rfl (fun K hK => ?_) AllReadyH.nil
        go_simp
        go_at_call 44
        refine (copy_any u n sa sc sl _ (HR.out.1.kept (Hu7_11_.out.k.grown (World.grownBy.refl _ _) (Nat.le_of_eq HCC.out.symm))).s (by omega)).mono ?_
        rintro e u6_7_11_ ⟨sa2, sc2, rfl, hg, ho⟩
        have Hu6_7_11_ := Lib.hid (Hu7_11_.out.newS hg ho)
        clear hg ho
        refine hK.out _ _ (⟨(Hu6_7_11_.out).b2.c 0 rfl, (Hu6_7_11_.out).b2.c 1 rfl, (Hu6_7_11_.out).b2.c 2 rfl, (Hu6_7_11_.out).b2.c 3 rfl, (Hu6_7_11_.out).b2.c 4 rfl, (Hu6_7_11_.out).b2.c 5 rfl, (Hu6_7_11_.out).b2.c 6 rfl, (Hu6_7_11_.out).b2.c 7 rfl, (Hu6_7_11_.out).b2.c 8 rfl, (Hu6_7_11_.out).b2.c 9 rfl, (Hu6_7_11_.out).b2.c 10 rfl, (Hu6_7_11_.out).b2.c 11 rfl, (Hu6_7_11_.out).b2.c 12 rfl, (Hu6_7_11_.out).b2.c 13 rfl, (Hu6_7_11_.out).b2.c 14 rfl⟩) (fun hS => ?_)
        clear hK
        try simp only [List.getElem_toArray, List.getElem_cons_zero, List.getElem_cons_succ, Act.put, List.setIfInBounds_toArray, List.set_cons_zero, List.set_cons_succ]
        refine wpAnyH_ready (rs := [10]) (by kernel_rfl) (List.cons_ne_nil _ _) ?_
        refine AllReadyH.cons rfl (fun K hK => ?_) AllReadyH.nil
        refine step_append_srcA (by rfl) _ _ _ (by rfl) C0 73 i2 _ 2 24 Try.underlying51 pi pz0 pz1 pz2 rfl (by decide) _ 0 [] (by rfl) (row_bx 2 Hu6_7_11_.out.b0 (by have := Hu6_7_11_.out.lo _ (List.mem_cons_self ..); have := HCC.out; dsimp only at *; omega)) _ gl.length (pksV gl) (by rfl) (src_pk (HR.out.1.kept (Hu6_7_11_.out.k.grown (World.grownBy.refl _ _) (Nat.le_of_eq HCC.out.symm))).g) (pk_one gl) (by unfold maxLen; omega) (by omega) (by have := Hu6_7_11_.out.k.size; have := HCC.out; omega) ?_
        intro v10 u6_7_10_11_ ho hg hat
        rw [Nat.zero_add, List.nil_append] at ho
        obtain ⟨ga2, gc2, rfl⟩ := own_slice ho
        have Hu6_7_10_11_ := Lib.hid (Hu6_7_11_.out.boxG ho hg hat)
        clear ho hg hat
        refine hK.out _ _ (⟨(Hu6_7_10_11_.out).b1.c 0 rfl, (Hu6_7_10_11_.out).b1.c 1 rfl, (Hu6_7_10_11_.out).b1.c 2 rfl, (Hu6_7_10_11_.out).b1.c 3 rfl, (Hu6_7_10_11_.out).b1.c 4 rfl, (Hu6_7_10_11_.out).b1.c 5 rfl, (Hu6_7_10_11_.out).b1.c 6 rfl, (Hu6_7_10_11_.out).b1.c 7 rfl, (Hu6_7_10_11_.out).b1.c 8 rfl, (Hu6_7_10_11_.out).b1.c 9 rfl, (Hu6_7_10_11_.out).b1.c 10 rfl, (Hu6_7_10_11_.out).b1.c 11 rfl, (Hu6_7_10_11_.out).b1.c 12 rfl, (Hu6_7_10_11_.out).b1.c 13 rfl, (Hu6_7_10_11_.out).b1.c 14 rfl⟩) (fun hS => ?_)
        clear hK
        try simp only [List.getElem_toArray, List.getElem_cons_zero, List.getElem_cons_succ, Act.put, List.setIfInBounds_toArray, List.set_cons_zero, List.set_cons_succ]
        refine wpAnyH_ready (rs := [14]) (by kernel_rfl) (List.cons_ne_nil _ _) ?_
        refine AllReadyH.cons rfl (fun K hK => ?_) AllReadyH.nil
        refine step_append_srcA (by rfl) _ _ _ (by rfl) C0 44 i0 _ 2 16 Try.underlying31 hi hz0 hz1 hz2 rfl (by decide) _ 0 [] (by rfl) Hu6_7_10_11_.out.l.d _ dl.length (rgsV dl) (by rfl) (src_rg (HR.out.1.kept (Hu6_7_10_11_.out.k.grown (World.grownBy.refl _ _) (Nat.le_of_eq HCC.out.symm))).d) (rgsV_one dl) (by unfold maxLen; omega) (by omega) (by have := Hu6_7_10_11_.out.k.size; have := HCC.out; omega) ?_
        intro v14 u6_7_10_11_14_ ho hg hat
        rw [Nat.zero_add, List.nil_append] at ho
        obtain ⟨da2, dc2, rfl⟩ := own_slice ho
        have Hu6_7_10_11_14_ := Lib.hid (Hu6_7_10_11_.out.growD ho hg hat)
        clear ho hg hat
        refine hK.out _ _ (⟨(Hu6_7_10_11_14_.out).b1.c 0 rfl, (Hu6_7_10_11_14_.out).b1.c 1 rfl, (Hu6_7_10_11_14_.out).b1.c 2 rfl, (Hu6_7_10_11_14_.out).b1.c 3 rfl, (Hu6_7_10_11_14_.out).b1.c 4 rfl, (Hu6_7_10_11_14_.out).b1.c 5 rfl, (Hu6_7_10_11_14_.out).b1.c 6 rfl, (Hu6_7_10_11_14_.out).b1.c 7 rfl, (Hu6_7_10_11_14_.out).b1.c 8 rfl, (Hu6_7_10_11_14_.out).b1.c 9 rfl, (Hu6_7_10_11_14_.out).b1.c 10 rfl, (Hu6_7_10_11_14_.out).b1.c 11 rfl, (Hu6_7_10_11_14_.out).b1.c 12 rfl, (Hu6_7_10_11_14_.out).b1.c 13 rfl, (Hu6_7_10_11_14_.out).b1.c 14 rfl⟩) (fun hS => ?_)
        clear hK
        try simp only [List.getElem_toArray, List.getElem_cons_zero, List.getElem_cons_succ, Act.put, List.setIfInBounds_toArray, List.set_cons_zero, List.set_cons_succ]
        exact tail sa2 sc2 q7 ga2 gc2 q11 da2 dc2 u6_7_10_11_14_ Hu6_7_10_11_14_.out
      exact AllReadyH.nil
    refine AllReadyH.cons rfl (fun K hK => ?_) ?_
    · go_simp
      have Hu11_ := Lib.hid (H0.out.emptyD (W' := (W0.alloc (.cells #[] 44)).drew) (grownBy_trans (World.grownBy_alloc _ _ _) grownBy_drew) (Nat.le_refl _) (World.alloc_heap_new W0 _))
      refine hK.out _ _ (⟨(Hu11_.out).b1.c 0 rfl, (Hu11_.out).b1.c 1 rfl, (Hu11_.out).b1.c 2 rfl, (Hu11_.out).b1.c 3 rfl, (Hu11_.out).b1.c 4 rfl, (Hu11_.out).b1.c 5 rfl, (Hu11_.out).b1.c 6 rfl, (Hu11_.out).b1.c 7 rfl, (Hu11_.out).b1.c 8 rfl, (Hu11_.out).b1.c 9 rfl, (Hu11_.out).b1.c 10 rfl, (Hu11_.out).b1.c 11 rfl, (Hu11_.out).b1.c 12 rfl, (Hu11_.out).b1.c 13 rfl, (Hu11_.out).b1.c 14 rfl⟩) (fun hS => ?_)
      generalize (W0.alloc (.cells #[] 44)).drew = u11_ at *
      generalize W0.heap.size = q11 at *
      clear hK
      try simp only [List.getElem_toArray, List.getElem_cons_zero, List.getElem_cons_succ, Act.put, List.setIfInBounds_toArray, List.set_cons_zero, List.set_cons_succ]
      refine wpAnyH_ready (rs := [6, 7]) (by kernel_rfl) (List.cons_ne_nil _ _) ?_
      refine AllReadyH.cons rfl (fun K hK => ?_) ?_
      · go_simp
        go_at_call 44
        refine (copy_any u n sa sc sl _ (HR.out.1.kept (Hu11_.out.k.grown (World.grownBy.refl _ _) (Nat.le_of_eq HCC.out.symm))).s (by omega)).mono ?_
        rintro e u6_11_ ⟨sa2, sc2, rfl, hg, ho⟩
        have Hu6_11_ := Lib.hid (Hu11_.out.newS hg ho)
        clear hg ho
        refine hK.out _ _ (⟨(Hu6_11_.out).b1.c 0 rfl, (Hu6_11_.out).b1.c 1 rfl, (Hu6_11_.out).b1.c 2 rfl, (Hu6_11_.out).b1.c 3 rfl, (Hu6_11_.out).b1.c 4 rfl, (Hu6_11_.out).b1.c 5 rfl, (Hu6_11_.out).b1.c 6 rfl, (Hu6_11_.out).b1.c 7 rfl, (Hu6_11_.out).b1.c 8 rfl, (Hu6_11_.out).b1.c 9 rfl, (Hu6_11_.out).b1.c 10 rfl, (Hu6_11_.out).b1.c 11 rfl, (Hu6_11_.out).b1.c 12 rfl, (Hu6_11_.out).b1.c 13 rfl, (Hu6_11_.out).b1.c 14 rfl⟩) (fun hS => ?_)
        clear hK
        try simp only [List.getElem_toArray, List.getElem_cons_zero, List.getElem_cons_succ, Act.put, List.setIfInBounds_toArray, List.set_cons_zero, List.set_cons_succ]
        refine wpAnyH_ready (rs := [7]) (by kernel_rfl) (List.cons_ne_nil _ _) ?_
        refine AllReadyH.cons rfl (fun K hK => ?_) AllReadyH.nil
        go_simp
        have Hu6_7_11_ := Lib.hid (Hu6_11_.out.new 73 #[])
        refine hK.out _ _ (⟨(Hu6_7_11_.out).b2.c 0 rfl, (Hu6_7_11_.out).b2.c 1 rfl, (Hu6_7_11_.out).b2.c 2 rfl, (Hu6_7_11_.out).b2.c 3 rfl, (Hu6_7_11_.out).b2.c 4 rfl, (Hu6_7_11_.out).b2.c 5 rfl, (Hu6_7_11_.out).b2.c 6 rfl, (Hu6_7_11_.out).b2.c 7 rfl, (Hu6_7_11_.out).b2.c 8 rfl, (Hu6_7_11_.out).b2.c 9 rfl, (Hu6_7_11_.out).b2.c 10 rfl, (Hu6_7_11_.out).b2.c 11 rfl, (Hu6_7_11_.out).b2.c 12 rfl, (Hu6_7_11_.out).b2.c 13 rfl, (Hu6_7_11_.out).b2.c 14 rfl⟩) (fun hS => ?_)
        generalize u6_11_.alloc (.cells #[] 73) = u6_7_11_ at *
        generalize u6_11_.heap.size = q7 at *
        clear hK
        try simp only [List.getElem_toArray, List.getElem_cons_zero, List.getElem_cons_succ, Act.put, List.setIfInBounds_toArray, List.set_cons_zero, List.set_cons_succ]
        refine wpAnyH_ready (rs := [10]) (by kernel_rfl) (List.cons_ne_nil _ _) ?_
        refine AllReadyH.cons rfl (fun K hK => ?_) AllReadyH.nil
        refine step_append_srcA (by rfl) _ _ _ (by rfl) C0 73 i2 _ 2 24 Try.underlying51 pi pz0 pz1 pz2 rfl (by decide) _ 0 [] (by rfl) (row_bx 2 Hu6_7_11_.out.b0 (by have := Hu6_7_11_.out.lo _ (List.mem_cons_self ..); have := HCC.out; dsimp only at *; omega)) _ gl.length (pksV gl) (by rfl) (src_pk (HR.out.1.kept (Hu6_7_11_.out.k.grown (World.grownBy.refl _ _) (Nat.le_of_eq HCC.out.symm))).g) (pk_one gl) (by unfold maxLen; omega) (by omega) (by have := Hu6_7_11_.out.k.size; have := HCC.out; omega) ?_
        intro v10 u6_7_10_11_ ho hg hat
        rw [Nat.zero_add, List.nil_append] at ho
        obtain ⟨ga2, gc2, rfl⟩ := own_slice ho
        have Hu6_7_10_11_ := Lib.hid (Hu6_7_11_.out.boxG ho hg hat)
        clear ho hg hat
        refine hK.out _ _ (⟨(Hu6_7_10_11_.out).b1.c 0 rfl, (Hu6_7_10_11_.out).b1.c 1 rfl, (Hu6_7_10_11_.out).b1.c 2 rfl, (Hu6_7_10_11_.out).b1.c 3 rfl, (Hu6_7_10_11_.out).b1.c 4 rfl, (Hu6_7_10_11_.out).b1.c 5 rfl, (Hu6_7_10_11_.out).b1.c 6 rfl, (Hu6_7_10_11_.out).b1.c 7 rfl, (Hu6_7_10_11_.out).b1.c 8 rfl, (Hu6_7_10_11_.out).b1.c 9 rfl, (Hu6_7_10_11_.out).b1.c 10 rfl, (Hu6_7_10_11_.out).b1.c 11 rfl, (Hu6_7_10_11_.out).b1.c 12 rfl, (Hu6_7_10_11_.out).b1.c 13 rfl, (Hu6_7_10_11_.out).b1.c 14 rfl⟩) (fun hS => ?_)
        clear hK
        try simp only [List.getElem_toArray, List.getElem_cons_zero, List.getElem_cons_succ, Act.put, List.setIfInBounds_toArray, List.set_cons_zero, List.set_cons_succ]
        refine wpAnyH_ready (rs := [14]) (by kernel_rfl) (List.cons_ne_nil _ _) ?_
        refine AllReadyH.cons rfl (fun K hK => ?_) AllReadyH.nil
        refine step_append_srcA (by rfl) _ _ _ (by rfl) C0 44 i0 _ 2 16 Try.underlying31 hi hz0 hz1 hz2 rfl (by decide) _ 0 [] (by rfl) Hu6_7_10_11_.out.l.d _ dl.length (rgsV dl) (by rfl) (src_rg (HR.out.1.kept (Hu6_7_10_11_.out.k.grown (World.grownBy.refl _ _) (Nat.le_of_eq HCC.out.symm))).d) (rgsV_one dl) (by unfold maxLen; omega) (by omega) (by have := Hu6_7_10_11_.out.k.size; have := HCC.out; omega) ?_
        intro v14 u6_7_10_11_14_ ho hg hat
        rw [Nat.zero_add, List.nil_append] at ho
        obtain ⟨da2, dc2, rfl⟩ := own_slice ho
        have Hu6_7_10_11_14_ := Lib.hid (Hu6_7_10_11_.out.growD ho hg hat)
        clear ho hg hat
        refine hK.out _ _ (⟨(Hu6_7_10_11_14_.out).b1.c 0 rfl, (Hu6_7_10_11_14_.out).b1.c 1 rfl, (Hu6_7_10_11_14_.out).b1.c 2 rfl, (Hu6_7_10_11_14_.out).b1.c 3 rfl, (Hu6_7_10_11_14_.out).b1.c 4 rfl, (Hu6_7_10_11_14_.out).b1.c 5 rfl, (Hu6_7_10_11_14_.out).b1.c 6 rfl, (Hu6_7_10_11_14_.out).b1.c 7 rfl, (Hu6_7_10_11_14_.out).b1.c 8 rfl, (Hu6_7_10_11_14_.out).b1.c 9 rfl, (Hu6_7_10_11_14_.out).b1.c 10 rfl, (Hu6_7_10_11_14_.out).b1.c 11 rfl, (Hu6_7_10_11_14_.out).b1.c 12 rfl, (Hu6_7_10_11_14_.out).b1.c 13 rfl, (Hu6_7_10_11_14_.out).b1.c 14 rfl⟩) (fun hS => ?_)
        clear hK
        try simp only [List.getElem_toArray, List.getElem_cons_zero, List.getElem_cons_succ, Act.put, List.setIfInBounds_toArray, List.set_cons_zero, List.set_cons_succ]
        exact tail sa2 sc2 q7 ga2 gc2 q11 da2 dc2 u6_7_10_11_14_ Hu6_7_10_11_14_.out
      refine AllReadyH.cons rfl (fun K hK => ?_) ?_
      · go_simp
        have Hu7_11_ := Lib.hid (Hu11_.out.new 73 #[])
        refine hK.out _ _ (⟨(Hu7_11_.out).b2.c 0 rfl, (Hu7_11_.out).b2.c 1 rfl, (Hu7_11_.out).b2.c 2 rfl, (Hu7_11_.out).b2.c 3 rfl, (Hu7_11_.out).b2.c 4 rfl, (Hu7_11_.out).b2.c 5 rfl, (Hu7_11_.out).b2.c 6 rfl, (Hu7_11_.out).b2.c 7 rfl, (Hu7_11_.out).b2.c 8 rfl, (Hu7_11_.out).b2.c 9 rfl, (Hu7_11_.out).b2.c 10 rfl, (Hu7_11_.out).b2.c 11 rfl, (Hu7_11_.out).b2.c 12 rfl, (Hu7_11_.out).b2.c 13 rfl, (Hu7_11_.out).b2.c 14 rfl⟩) (fun hS => ?_)
        generalize u11_.alloc (.cells #[] 73) = u7_11_ at *
        generalize u11_.heap.size = q7 at *
        clear hK
        try simp only [List.getElem_toArray, List.getElem_cons_zero, List.getElem_cons_succ, Act.put, List.setIfInBounds_toArray, List.set_cons_zero, List.set_cons_succ]
        refine wpAnyH_ready (rs := [6]) (by kernel_rfl) (List.cons_ne_nil _ _) ?_
        refine AllReadyH.cons rfl (fun K hK => ?_) AllReadyH.nil
        go_simp
        go_at_call 44
        refine (copy_any u n sa sc sl _ (HR.out.1.kept (Hu7_11_.out.k.grown (World.grownBy.refl _ _) (Nat.le_of_eq HCC.out.symm))).s (by omega)).mono ?_
        rintro e u6_7_11_ ⟨sa2, sc2, rfl, hg, ho⟩
        have Hu6_7_11_ := Lib.hid (Hu7_11_.out.newS hg ho)
        clear hg ho
        refine hK.out _ _ (⟨(Hu6_7_11_.out).b2.c 0 rfl, (Hu6_7_11_.out).b2.c 1 rfl, (Hu6_7_11_.out).b2.c 2 rfl, (Hu6_7_11_.out).b2.c 3 rfl, (Hu6_7_11_.out).b2.c 4 rfl, (Hu6_7_11_.out).b2.c 5 rfl, (Hu6_7_11_.out).b2.c 6 rfl, (Hu6_7_11_.out).b2.c 7 rfl, (Hu6_7_11_.out).b2.c 8 rfl, (Hu6_7_11_.out).b2.c 9 rfl, (Hu6_7_11_.out).b2.c 10 rfl, (Hu6_7_11_.out).b2.c 11 rfl, (Hu6_7_11_.out).b2.c 12 rfl, (Hu6_7_11_.out).b2.c 13 rfl, (Hu6_7_11_.out).b2.c 14 rfl⟩) (fun hS => ?_)
        clear hK
        try simp only [List.getElem_toArray, List.getElem_cons_zero, List.getElem_cons_succ, Act.put, List.setIfInBounds_toArray, List.set_cons_zero, List.set_cons_succ]
        refine wpAnyH_ready (rs := [10]) (by kernel_rfl) (List.cons_ne_nil _ _) ?_
        refine AllReadyH.cons rfl (fun K hK => ?_) AllReadyH.nil
        refine step_append_srcA (by rfl) _ _ _ (by rfl) C0 73 i2 _ 2 24 Try.underlying51 pi pz0 pz1 pz2 rfl (by decide) _ 0 [] (by rfl) (row_bx 2 Hu6_7_11_.out.b0 (by have := Hu6_7_11_.out.lo _ (List.mem_cons_self ..); have := HCC.out; dsimp only at *; omega)) _ gl.length (pksV gl) (by rfl) (src_pk (HR.out.1.kept (Hu6_7_11_.out.k.grown (World.grownBy.refl _ _) (Nat.le_of_eq HCC.out.symm))).g) (pk_one gl) (by unfold maxLen; omega) (by omega) (by have := Hu6_7_11_.out.k.size; have := HCC.out; omega) ?_
        intro v10 u6_7_10_11_ ho hg hat
        rw [Nat.zero_add, List.nil_append] at ho
        obtain ⟨ga2, gc2, rfl⟩ := own_slice ho
        have Hu6_7_10_11_ := Lib.hid (Hu6_7_11_.out.boxG ho hg hat)
        clear ho hg hat
        refine hK.out _ _ (⟨(Hu6_7_10_11_.out).b1.c 0 rfl, (Hu6_7_10_11_.out).b1.c 1 rfl, (Hu6_7_10_11_.out).b1.c 2 rfl, (Hu6_7_10_11_.out).b1.c 3 rfl, (Hu6_7_10_11_.out).b1.c 4 rfl, (Hu6_7_10_11_.out).b1.c 5 rfl, (Hu6_7_10_11_.out).b1.c 6 rfl, (Hu6_7_10_11_.out).b1.c 7 rfl, (Hu6_7_10_11_.out).b1.c 8 rfl, (Hu6_7_10_11_.out).b1.c 9 rfl, (Hu6_7_10_11_.out).b1.c 10 rfl, (Hu6_7_10_11_.out).b1.c 11 rfl, (Hu6_7_10_11_.out).b1.c 12 rfl, (Hu6_7_10_11_.out).b1.c 13 rfl, (Hu6_7_10_11_.out).b1.c 14 rfl⟩) (fun hS => ?_)
        clear hK
        try simp only [List.getElem_toArray, List.getElem_cons_zero, List.getElem_cons_succ, Act.put, List.setIfInBounds_toArray, List.set_cons_zero, List.set_cons_succ]
        refine wpAnyH_ready (rs := [14]) (by kernel_rfl) (List.cons_ne_nil _ _) ?_
        refine AllReadyH.cons rfl (fun K hK => ?_) AllReadyH.nil
        refine step_append_srcA (by rfl) _ _ _ (by rfl) C0 44 i0 _ 2 16 Try.underlying31 hi hz0 hz1 hz2 rfl (by decide) _ 0 [] (by rfl) Hu6_7_10_11_.out.l.d _ dl.length (rgsV dl) (by rfl) (src_rg (HR.out.1.kept (Hu6_7_10_11_.out.k.grown (World.grownBy.refl _ _) (Nat.le_of_eq HCC.out.symm))).d) (rgsV_one dl) (by unfold maxLen; omega) (by omega) (by have := Hu6_7_10_11_.out.k.size; have := HCC.out; omega) ?_
        intro v14 u6_7_10_11_14_ ho hg hat
        rw [Nat.zero_add, List.nil_append] at ho
        obtain ⟨da2, dc2, rfl⟩ := own_slice ho
        have Hu6_7_10_11_14_ := Lib.hid (Hu6_7_10_11_.out.growD ho hg hat)
        clear ho hg hat
        refine hK.out _ _ (⟨(Hu6_7_10_11_14_.out).b1.c 0 rfl, (Hu6_7_10_11_14_.out).b1.c 1 rfl, (Hu6_7_10_11_14_.out).b1.c 2 rfl, (Hu6_7_10_11_14_.out).b1.c 3 rfl, (Hu6_7_10_11_14_.out).b1.c 4 rfl, (Hu6_7_10_11_14_.out).b1.c 5 rfl, (Hu6_7_10_11_14_.out).b1.c 6 rfl, (Hu6_7_10_11_14_.out).b1.c 7 rfl, (Hu6_7_10_11_14_.out).b1.c 8 rfl, (Hu6_7_10_11_14_.out).b1.c 9 rfl, (Hu6_7_10_11_14_.out).b1.c 10 rfl, (Hu6_7_10_11_14_.out).b1.c 11 rfl, (Hu6_7_10_11_14_.out).b1.c 12 rfl, (Hu6_7_10_11_14_.out).b1.c 13 rfl, (Hu6_7_10_11_14_.out).b1.c 14 rfl⟩) (fun hS => ?_)
        clear hK
        try simp only [List.getElem_toArray, List.getElem_cons_zero, List.getElem_cons_succ, Act.put, List.setIfInBounds_toArray, List.set_cons_zero, List.set_cons_succ]
        exact tail sa2 sc2 q7 ga2 gc2 q11 da2 dc2 u6_7_10_11_14_ Hu6_7_10_11_14_.out
      exact AllReadyH.nil
    exact AllReadyH.nil
  case tl =>
    intro sa2 sc2 q7 ga2 gc2 q11 da2 dc2 u6_7_10_11_14_ hs
    have Hu6_7_10_11_14_ := Lib.hid hs
    clear hs
    have hS := (show u6_7_10_11_14_.cell? ⟨C0, 0, none⟩ = some (.int .i64 t) ∧ u6_7_10_11_14_.cell? ⟨C0, 1, none⟩ = some (.int .i64 m) ∧ u6_7_10_11_14_.cell? ⟨C0, 2, none⟩ = some (.int .i64 y) ∧ u6_7_10_11_14_.cell? ⟨C0, 3, none⟩ = some (.int .i64 z) ∧ u6_7_10_11_14_.cell? ⟨C0, 4, none⟩ = some (.int .i64 p) ∧ u6_7_10_11_14_.cell? ⟨C0, 5, none⟩ = some (.int .i64 d) ∧ u6_7_10_11_14_.cell? ⟨C0, 6, none⟩ = some (.int .i64 o) ∧ u6_7_10_11_14_.cell? ⟨C0, 7, none⟩ = some (.int .i64 g) ∧ u6_7_10_11_14_.cell? ⟨C0, 8, none⟩ = some (.int .i64 u) ∧ u6_7_10_11_14_.cell? ⟨C0, 9, none⟩ = some (.int .i64 n) ∧ u6_7_10_11_14_.cell? ⟨C0, 10, none⟩ = some (.slice sa sl.length sc) ∧ u6_7_10_11_14_.cell? ⟨C0, 11, none⟩ = some (.slice ga gl.length gc) ∧ u6_7_10_11_14_.cell? ⟨C0, 12, none⟩ = some (.slice da dl.length dc) ∧ u6_7_10_11_14_.cell? ⟨C0, 13, none⟩ = some (.slice ua ul.length uc) ∧ u6_7_10_11_14_.cell? ⟨C0, 14, none⟩ = some (.slice na nl.length nc) from ⟨(Hu6_7_10_11_14_.out).b1.c 0 rfl, (Hu6_7_10_11_14_.out).b1.c 1 rfl, (Hu6_7_10_11_14_.out).b1.c 2 rfl, (Hu6_7_10_11_14_.out).b1.c 3 rfl, (Hu6_7_10_11_14_.out).b1.c 4 rfl, (Hu6_7_10_11_14_.out).b1.c 5 rfl, (Hu6_7_10_11_14_.out).b1.c 6 rfl, (Hu6_7_10_11_14_.out).b1.c 7 rfl, (Hu6_7_10_11_14_.out).b1.c 8 rfl, (Hu6_7_10_11_14_.out).b1.c 9 rfl, (Hu6_7_10_11_14_.out).b1.c 10 rfl, (Hu6_7_10_11_14_.out).b1.c 11 rfl, (Hu6_7_10_11_14_.out).b1.c 12 rfl, (Hu6_7_10_11_14_.out).b1.c 13 rfl, (Hu6_7_10_11_14_.out).b1.c 14 rfl⟩)
    refine wpAnyH_ready (rs := [17]) (by kernel_rfl) (List.cons_ne_nil _ _) ?_
    refine AllReadyH.cons rfl (fun K hK => ?_) AllReadyH.nil
    go_simp
    go_at_call 45
    refine (cpn_S ua uc ul _ (HR.out.1.kept (Hu6_7_10_11_14_.out.k.grown (World.grownBy.refl _ _) (Nat.le_of_eq HCC.out.symm))).u (by omega) (fun x hx => by have := hum x hx; omega)).mono ?_
    rintro e u6_7_10_11_14_17_ ⟨ua2, uc2, us, rfl, hus, hc⟩
    have Hu6_7_10_11_14_17_ := Lib.hid (Hu6_7_10_11_14_.out.newU hc)
    have HUS := Lib.hid hus
    clear hc hus
    refine hK.out _ _ (⟨(Hu6_7_10_11_14_17_.out).b1.c 0 rfl, (Hu6_7_10_11_14_17_.out).b1.c 1 rfl, (Hu6_7_10_11_14_17_.out).b1.c 2 rfl, (Hu6_7_10_11_14_17_.out).b1.c 3 rfl, (Hu6_7_10_11_14_17_.out).b1.c 4 rfl, (Hu6_7_10_11_14_17_.out).b1.c 5 rfl, (Hu6_7_10_11_14_17_.out).b1.c 6 rfl, (Hu6_7_10_11_14_17_.out).b1.c 7 rfl, (Hu6_7_10_11_14_17_.out).b1.c 8 rfl, (Hu6_7_10_11_14_17_.out).b1.c 9 rfl, (Hu6_7_10_11_14_17_.out).b1.c 10 rfl, (Hu6_7_10_11_14_17_.out).b1.c 11 rfl, (Hu6_7_10_11_14_17_.out).b1.c 12 rfl, (Hu6_7_10_11_14_17_.out).b1.c 13 rfl, (Hu6_7_10_11_14_17_.out).b1.c 14 rfl⟩) (fun hS => ?_)
    clear hK
    try simp only [List.getElem_toArray, List.getElem_cons_zero, List.getElem_cons_succ, Act.put, List.setIfInBounds_toArray, List.set_cons_zero, List.set_cons_succ]
    refine wpAnyH_ready (rs := [20]) (by kernel_rfl) (List.cons_ne_nil _ _) ?_
    refine AllReadyH.cons rfl (fun K hK => ?_) AllReadyH.nil
    go_simp
    go_at_call 45
    refine (cpn_S na nc nl _ (HR.out.1.kept (Hu6_7_10_11_14_17_.out.k.grown (World.grownBy.refl _ _) (Nat.le_of_eq HCC.out.symm))).n (by omega) (fun x hx => by have := hnm x hx; omega)).mono ?_
    rintro e u6_7_10_11_14_17_20_ ⟨na2, nc2, ns, rfl, hns, hc⟩
    have Hu6_7_10_11_14_17_20_ := Lib.hid (Hu6_7_10_11_14_17_.out.newN hc)
    have HNS := Lib.hid hns
    clear hc hns
    refine hK.out _ _ (⟨(Hu6_7_10_11_14_17_20_.out).b1.c 0 rfl, (Hu6_7_10_11_14_17_20_.out).b1.c 1 rfl, (Hu6_7_10_11_14_17_20_.out).b1.c 2 rfl, (Hu6_7_10_11_14_17_20_.out).b1.c 3 rfl, (Hu6_7_10_11_14_17_20_.out).b1.c 4 rfl, (Hu6_7_10_11_14_17_20_.out).b1.c 5 rfl, (Hu6_7_10_11_14_17_20_.out).b1.c 6 rfl, (Hu6_7_10_11_14_17_20_.out).b1.c 7 rfl, (Hu6_7_10_11_14_17_20_.out).b1.c 8 rfl, (Hu6_7_10_11_14_17_20_.out).b1.c 9 rfl, (Hu6_7_10_11_14_17_20_.out).b1.c 10 rfl, (Hu6_7_10_11_14_17_20_.out).b1.c 11 rfl, (Hu6_7_10_11_14_17_20_.out).b1.c 12 rfl, (Hu6_7_10_11_14_17_20_.out).b1.c 13 rfl, (Hu6_7_10_11_14_17_20_.out).b1.c 14 rfl⟩) (fun hS => ?_)
    clear hK
    try simp only [List.getElem_toArray, List.getElem_cons_zero, List.getElem_cons_succ, Act.put, List.setIfInBounds_toArray, List.set_cons_zero, List.set_cons_succ]
    refine wpAnyH_take (i := 21) (v := ?_) rfl (by kernel_rfl) (by kernel_rfl) (by kernel_rfl) (fun _ _ _ h => h) (Or.inl ⟨by kernel_rfl, ?_⟩) hS ?_
    rotate_left
    · intro w' hSw
      obtain ⟨g0, g1, g2, g3, g4, g5, g6, g7, g8, g9, g10, g11, g12, g13, g14⟩ := hSw
      first | (go_simp; done) | (go_simp; with_reducible rfl)
    simp only [List.getElem_toArray, List.getElem_cons_zero, List.getElem_cons_succ, Act.put, List.setIfInBounds_toArray, List.set_cons_zero, List.set_cons_succ]
    refine wpAnyH_ready (rs := [22]) (by kernel_rfl) (List.cons_ne_nil _ _) ?_
    refine AllReadyH.cons rfl (fun K hK => ?_) AllReadyH.nil
    have z0 := Hu6_7_10_11_14_17_20_.out.b0.c 0 rfl
    have z1 := Hu6_7_10_11_14_17_20_.out.b0.c 1 rfl
    have z2 := Hu6_7_10_11_14_17_20_.out.b0.c 2 rfl
    have z3 := Hu6_7_10_11_14_17_20_.out.b0.c 3 rfl
    have z4 := Hu6_7_10_11_14_17_20_.out.b0.c 4 rfl
    have z5 := Hu6_7_10_11_14_17_20_.out.b0.c 5 rfl
    have z6 := Hu6_7_10_11_14_17_20_.out.b0.c 6 rfl
    have z7 := Hu6_7_10_11_14_17_20_.out.b0.c 7 rfl
    have z8 := Hu6_7_10_11_14_17_20_.out.b0.c 8 rfl
    have z9 := Hu6_7_10_11_14_17_20_.out.b0.c 9 rfl
    have z10 := Hu6_7_10_11_14_17_20_.out.b0.c 10 rfl
    have z11 := Hu6_7_10_11_14_17_20_.out.b0.c 11 rfl
    have z12 := Hu6_7_10_11_14_17_20_.out.b0.c 12 rfl
    have z13 := Hu6_7_10_11_14_17_20_.out.b0.c 13 rfl
    have z14 := Hu6_7_10_11_14_17_20_.out.b0.c 14 rfl
    have f0 := Hu6_7_10_11_14_17_20_.out.b0.f 0
    have f1 := Hu6_7_10_11_14_17_20_.out.b0.f 1
    have f2 := Hu6_7_10_11_14_17_20_.out.b0.f 2
    have f3 := Hu6_7_10_11_14_17_20_.out.b0.f 3
    have f4 := Hu6_7_10_11_14_17_20_.out.b0.f 4
    have f5 := Hu6_7_10_11_14_17_20_.out.b0.f 5
    have f6 := Hu6_7_10_11_14_17_20_.out.b0.f 6
    have f7 := Hu6_7_10_11_14_17_20_.out.b0.f 7
    have f8 := Hu6_7_10_11_14_17_20_.out.b0.f 8
    have f9 := Hu6_7_10_11_14_17_20_.out.b0.f 9
    have f10 := Hu6_7_10_11_14_17_20_.out.b0.f 10
    have f11 := Hu6_7_10_11_14_17_20_.out.b0.f 11
    have f12 := Hu6_7_10_11_14_17_20_.out.b0.f 12
    have f13 := Hu6_7_10_11_14_17_20_.out.b0.f 13
    have f14 := Hu6_7_10_11_14_17_20_.out.b0.f 14
    have lr := Hu6_7_10_11_14_17_20_.out.b0.lt
    go_simp
    refine gen_wq (P := fun V => Sw w C0 X [(C1, 53, #[.int .i64 t, .int .i64 m, .int .i64 y, .int .i64 z, .int .i64 p, .int .i64 d, .int .i64 o, .int .i64 g, .int .i64 u, .int .i64 n, .slice sa2 sl.length sc2, .slice ga2 gl.length gc2, .slice da2 dl.length dc2, .slice ua2 us.length uc2, .slice na2 ns.length nc2]), (C0, 53, #[.int .i64 t, .int .i64 m, .int .i64 y, .int .i64 z, .int .i64 p, .int .i64 d, .int .i64 o, .int .i64 g, .int .i64 u, .int .i64 n, .slice sa sl.length sc, .slice ga gl.length gc, .slice da dl.length dc, .slice ua ul.length uc, .slice na nl.length nc])] sa2 sc2 sl ga2 gc2 gl da2 dc2 dl ua2 uc2 us na2 nc2 ns V) (Hu6_7_10_11_14_17_20_.out.all0 (.int .i64 t) (.int .i64 m) (.int .i64 y) (.int .i64 z) (.int .i64 p) (.int .i64 d) (.int .i64 o) (.int .i64 g) (.int .i64 u) (.int .i64 n) (.slice sa2 sl.length sc2) (.slice ga2 gl.length gc2) (.slice da2 dl.length dc2) (.slice ua2 us.length uc2) (.slice na2 ns.length nc2)) (fun uz hz => ?_)
    clear z0 f0 z1 f1 z2 f2 z3 f3 z4 f4 z5 f5 z6 f6 z7 f7 z8 f8 z9 f9 z10 f10 z11 f11 z12 f12 z13 f13 z14 f14 lr
    have HZ := Lib.hid hz
    clear hz
    refine hK.out _ _ (⟨(HZ.out).b1.c 0 rfl, (HZ.out).b1.c 1 rfl, (HZ.out).b1.c 2 rfl, (HZ.out).b1.c 3 rfl, (HZ.out).b1.c 4 rfl, (HZ.out).b1.c 5 rfl, (HZ.out).b1.c 6 rfl, (HZ.out).b1.c 7 rfl, (HZ.out).b1.c 8 rfl, (HZ.out).b1.c 9 rfl, (HZ.out).b1.c 10 rfl, (HZ.out).b1.c 11 rfl, (HZ.out).b1.c 12 rfl, (HZ.out).b1.c 13 rfl, (HZ.out).b1.c 14 rfl⟩) (fun hS => ?_)
    clear hK
    try simp only [List.getElem_toArray, List.getElem_cons_zero, List.getElem_cons_succ, Act.put, List.setIfInBounds_toArray, List.set_cons_zero, List.set_cons_succ]
    refine wpAnyH_done (by kernel_rfl) ?_ _
    have r0 := HZ.out.b0.c 0 rfl
    have r1 := HZ.out.b0.c 1 rfl
    have r2 := HZ.out.b0.c 2 rfl
    have r3 := HZ.out.b0.c 3 rfl
    have r4 := HZ.out.b0.c 4 rfl
    have r5 := HZ.out.b0.c 5 rfl
    have r6 := HZ.out.b0.c 6 rfl
    have r7 := HZ.out.b0.c 7 rfl
    have r8 := HZ.out.b0.c 8 rfl
    have r9 := HZ.out.b0.c 9 rfl
    have r10 := HZ.out.b0.c 10 rfl
    have r11 := HZ.out.b0.c 11 rfl
    have r12 := HZ.out.b0.c 12 rfl
    have r13 := HZ.out.b0.c 13 rfl
    have r14 := HZ.out.b0.c 14 rfl
    skip
    go_wp2_with fail
    refine bodyPost_ret (v := .agg #[.int .i64 t, .int .i64 m, .int .i64 y, .int .i64 z, .int .i64 p, .int .i64 d, .int .i64 o, .int .i64 g, .int .i64 u, .int .i64 n, .slice sa2 sl.length sc2, .slice ga2 gl.length gc2, .slice da2 dl.length dc2, .slice ua2 us.length uc2, .slice na2 ns.length nc2]) (by simp [results, Try.results38, go_sem, r0, r1, r2, r3, r4, r5, r6, r7, r8, r9, r10, r11, r12, r13, r14]) rfl ?_
    exact ⟨sa2, sc2, ga2, gc2, da2, dc2, ua2, uc2, us, na2, nc2, ns, rfl, LwAt.base HZ.out.fin.1 (Nat.le_of_eq HCC.out.symm), HZ.out.k.grown (World.grownBy.refl _ _) (Nat.le_of_eq HCC.out.symm), HUS.out, HNS.out⟩

end Go.Proofs.Ytedhemllgpbheaa

