/- Wz -/
import Derived.Test.YtedhemllgpbheaaQ31
import Derived.Test.YtedhemllgpbheaaQ32
namespace Go.Proofs.Ytedhemllgpbheaa
open Go.RowKit
open P7 (Pk PkAt pksV prefL PcsP)

section
variable {w W W' : World} {B : Nat} {X : List Nat} {bs : List (Nat × TypeId × Array Value)} {sa : Option Addr} {sc : Nat} {sl : List Rg} {ga : Option Addr} {gc : Nat} {gl : List Pk} {da : Option Addr} {dc : Nat} {dl : List Rg} {ua : Option Addr} {uc : Nat} {ul : List Nt} {na : Option Addr} {nc : Nat} {nl : List Nt}
/-- A store into the ack. -/
theorem AkAt.set {C : Nat} {T : TypeId} {xs : Array Value} {aa : Option Addr} {ac : Nat} {al : List Rg} (h : AkAt w B X ((C, T, xs) :: bs) sa sc sl ga gc gl da dc dl ua uc ul na nc nl aa ac al W) (i : Nat) (v : Value) : AkAt w B X ((C, T, xs.setIfInBounds i v) :: bs) sa sc sl ga gc gl da dc dl ua uc ul na nc nl aa ac al (W.setCell ⟨C, i, none⟩ v) := by
  rcases h with ⟨h1, h2, h3, h⟩ | ⟨q, ys, rfl, h2, h⟩
  · exact .inl ⟨h1, h2, h3, h.p0 i v⟩
  · refine .inr ⟨q, ys, rfl, own_of h2 fun b hb => Below.heap_setCell _ _ _ b (fun e => ?_), h.p1 i v⟩
    cases hb
    have hq := h.off0
    simp only [List.map_cons, List.mem_append, List.mem_cons] at hq
    exact hq (.inl (.inl e))
end
def DnRel (w : World) (B : Nat) (X : List Nat) (bs : List (Nat × TypeId × Array Value)) (C3 : Nat) (P : Int) (k : Nat) (sa : Option Addr) (sc : Nat) (sl : List Rg) (ga : Option Addr) (gc : Nat) (gl : List Pk) (da : Option Addr) (dc : Nat) (dl : List Rg) (ua : Option Addr) (uc : Nat) (ul : List Nt) (na : Option Addr) (nc : Nat) (nl : List Nt) (i : Value) (wr : World) : Prop :=
  ∃ (j : Nat) (aa : Option Addr) (ac : Nat) (al : List Rg), i = .int .i64 (j : Int) ∧ j ≤ k ∧ al.length ≤ 3 ∧ AkAt w B X ((C3, 33, #[.int .i64 2, .int .i64 P, .int .i64 0, .slice aa al.length ac]) :: bs) sa sc sl ga gc gl da dc dl ua uc ul na nc nl aa ac al wr

set_option maxRecDepth 100000 in
set_option maxHeartbeats 8000000 in
theorem down_S (t m y z p d o g u n : Int) (sa : Option Addr) (sc : Nat) (sl : List Rg) (ga : Option Addr) (gc : Nat) (gl : List Pk) (da : Option Addr) (dc : Nat) (dl : List Rg) (ua : Option Addr) (uc : Nat) (ul : List Nt) (na : Option Addr) (nc : Nat) (nl : List Nt) (x1 x2 : Int) (w : World) (B : Nat) (X : List Nat) (h : LwAt w B X sa sc sl ga gc gl da dc dl ua uc ul na nc nl) (hB : B ≤ w.heap.size) (hd : dl.length ≤ 1000) (hu : ul.length ≤ 1000) (hn : nl.length ≤ 1000) (hsl : sl.length ≤ 1000) (hgl : gl.length ≤ 900) (hum : ∀ x ∈ ul, x.l.length ≤ 3) (hnm : ∀ x ∈ nl, x.l.length ≤ 3) (hpc : PcsP gl) (hx0 : 0 ≤ x1) (hx1 : x1 < x2) (hx2 : x2 ≤ 3000) (hx3 : x2 - x1 ≤ 200) :
    Calls Try.prog 40 #[.agg #[.int .i64 t, .int .i64 m, .int .i64 y, .int .i64 z, .int .i64 p, .int .i64 d, .int .i64 o, .int .i64 g, .int .i64 u, .int .i64 n, .slice sa sl.length sc, .slice ga gl.length gc, .slice da dl.length dc, .slice ua ul.length uc, .slice na nl.length nc], .agg #[.int .i64 x1, .int .i64 x2]] w (WPost w B X dl.length (ul.length + 1) nl.length) := by
  obtain ⟨i0, hi, hz0, hz1, hz2⟩ := info_of infoRg
  obtain ⟨i1, ki, kz0, kz1, kz2⟩ := info_of infoNt
  obtain ⟨D, hD⟩ : ∃ D, strL x1 (x2 - x1).toNat = D := ⟨_, rfl⟩
  have hDl : D.length = (x2 - x1).toNat := by rw [← hD, strL_len]
  have HDD := Lib.hid hD
  have HPC := Lib.hid hpc
  have HDL := Lib.hid (show 1 ≤ D.length ∧ D.length ≤ 200 by omega)
  clear hD hpc hDl
  have _ := And.intro hd (And.intro hu (And.intro hn (And.intro hsl (And.intro hgl (And.intro hum hnm)))))
  obtain ⟨C0, hC0⟩ : ∃ C, C = w.heap.size := ⟨_, rfl⟩
  obtain ⟨C1, hC1⟩ : ∃ C, C = w.heap.size + 1 := ⟨_, rfl⟩
  obtain ⟨C2, hC2⟩ : ∃ C, C = w.heap.size + 1 + 1 := ⟨_, rfl⟩
  have k := ((((Sw.start h hB).new 53 #[.int .i64 t, .int .i64 m, .int .i64 y, .int .i64 z, .int .i64 p, .int .i64 d, .int .i64 o, .int .i64 g, .int .i64 u, .int .i64 n, .slice sa sl.length sc, .slice ga gl.length gc, .slice da dl.length dc, .slice ua ul.length uc, .slice na nl.length nc]).new 44 #[.int .i64 x1, .int .i64 x2]).new 53 #[.int .i64 0, .int .i64 0, .int .i64 0, .int .i64 0, .int .i64 0, .int .i64 0, .int .i64 0, .int .i64 0, .int .i64 0, .int .i64 0, .slice none 0 0, .slice none 0 0, .slice none 0 0, .slice none 0 0, .slice none 0 0])
  simp only [World.size_alloc] at k
  rw [← hC2, ← hC1, ← hC0] at k
  have H0 := Lib.hid k
  clear k h
  go_enter Try.func40, Try.ntmps40
  go_upto_region 1 with fail
  try simp only [World.size_alloc]
  try rw [← hC2]
  try rw [← hC1]
  try rw [← hC0]
  clear hC0 hC1 hC2
  generalize (((w.alloc (.cells #[.int .i64 t, .int .i64 m, .int .i64 y, .int .i64 z, .int .i64 p, .int .i64 d, .int .i64 o, .int .i64 g, .int .i64 u, .int .i64 n, .slice sa sl.length sc, .slice ga gl.length gc, .slice da dl.length dc, .slice ua ul.length uc, .slice na nl.length nc] 53)).alloc (.cells #[.int .i64 x1, .int .i64 x2] 44)).alloc (.cells #[.int .i64 0, .int .i64 0, .int .i64 0, .int .i64 0, .int .i64 0, .int .i64 0, .int .i64 0, .int .i64 0, .int .i64 0, .int .i64 0, .slice none 0 0, .slice none 0 0, .slice none 0 0, .slice none 0 0, .slice none 0 0] 53)) = W0 at *
  refine wp_region_held_drew (S := fun w' => w'.cell? ⟨C1, 0, none⟩ = some (.int .i64 x1) ∧ w'.cell? ⟨C1, 1, none⟩ = some (.int .i64 x2)) (by kernel_rfl) (by have hd := H0.out.keep (grownBy_drew (r := none)); exact ⟨(hd).b1.c 0 rfl, (hd).b1.c 1 rfl⟩) (fun hS => ?_)
  have HD0 := Lib.hid (H0.out.keep (grownBy_drew (r := none)))
  generalize W0.drew = Wd at *
  refine' (fun (tail : ∀ (W : World), Sw w B X [(C2, 53, #[.int .i64 0, .int .i64 0, .int .i64 0, .int .i64 0, .int .i64 0, .int .i64 0, .int .i64 0, .int .i64 0, .int .i64 0, .int .i64 0, .slice none 0 0, .slice none 0 0, .slice none 0 0, .slice none 0 0, .slice none 0 0]), (C1, 44, #[.int .i64 x1, .int .i64 x2]), (C0, 53, #[.int .i64 t, .int .i64 m, .int .i64 y, .int .i64 z, .int .i64 p, .int .i64 d, .int .i64 o, .int .i64 g, .int .i64 u, .int .i64 n, .slice sa sl.length sc, .slice ga gl.length gc, .slice da dl.length dc, .slice ua ul.length uc, .slice na nl.length nc])] sa sc sl ga gc gl da dc dl ua uc ul na nc nl W → (_ : World → Prop) W) => ?main) ?tl
  case main =>
    refine wpAnyH_take (i := 0) (v := ?_) rfl (by kernel_rfl) (by kernel_rfl) (by kernel_rfl) (fun _ _ _ h => h) (Or.inl ⟨by kernel_rfl, ?_⟩) hS ?_
    rotate_left
    · intro w' hSw
      obtain ⟨g0, g1⟩ := hSw
      first | (go_simp; done) | (go_simp; with_reducible rfl)
    simp only [List.getElem_toArray, List.getElem_cons_zero, Act.put, List.setIfInBounds_toArray, List.set_cons_zero, List.set_cons_succ]
    refine wpAnyH_take (i := 2) (v := ?_) rfl (by kernel_rfl) (by kernel_rfl) (by kernel_rfl) (fun _ _ _ h => h) (Or.inl ⟨by kernel_rfl, ?_⟩) hS ?_
    rotate_left
    · intro w' hSw
      obtain ⟨g0, g1⟩ := hSw
      first | (go_simp; done) | (go_simp; with_reducible rfl)
    simp only [List.getElem_toArray, List.getElem_cons_zero, List.getElem_cons_succ, Act.put, List.setIfInBounds_toArray, List.set_cons_zero, List.set_cons_succ]
    refine wpAnyH_take (i := 3) (v := ?_) rfl (by kernel_rfl) (by kernel_rfl) (by kernel_rfl) (fun _ _ _ h => h) (Or.inl ⟨by kernel_rfl, ?_⟩) hS ?_
    rotate_left
    · intro w' hSw
      obtain ⟨g0, g1⟩ := hSw
      first | (go_simp; done) | (go_simp; with_reducible rfl)
    simp only [List.getElem_toArray, List.getElem_cons_zero, List.getElem_cons_succ, Act.put, List.setIfInBounds_toArray, List.set_cons_zero, List.set_cons_succ]
    refine wpAnyH_take (i := 4) (v := ?_) rfl (by kernel_rfl) (by kernel_rfl) (by kernel_rfl) (fun _ _ _ h => h) (Or.inl ⟨by kernel_rfl, ?_⟩) hS ?_
    rotate_left
    · intro w' hSw
      obtain ⟨g0, g1⟩ := hSw
      first | (go_simp; done) | (go_simp; with_reducible rfl)
    simp only [List.getElem_toArray, List.getElem_cons_zero, List.getElem_cons_succ, Act.put, List.setIfInBounds_toArray, List.set_cons_zero, List.set_cons_succ]
    refine wpAnyH_take (i := 5) (v := ?_) rfl (by kernel_rfl) (by kernel_rfl) (by kernel_rfl) (fun _ _ _ h => h) (Or.inl ⟨by kernel_rfl, ?_⟩) hS ?_
    rotate_left
    · intro w' hSw
      obtain ⟨g0, g1⟩ := hSw
      first | (go_simp; done) | (go_simp; with_reducible rfl)
    simp only [List.getElem_toArray, List.getElem_cons_zero, List.getElem_cons_succ, Act.put, List.setIfInBounds_toArray, List.set_cons_zero, List.set_cons_succ]
    refine wpAnyH_take (i := 6) (v := ?_) rfl (by kernel_rfl) (by kernel_rfl) (by kernel_rfl) (fun _ _ _ h => h) (Or.inl ⟨by kernel_rfl, ?_⟩) hS ?_
    rotate_left
    · intro w' hSw
      obtain ⟨g0, g1⟩ := hSw
      first | (go_simp; done) | (go_simp; with_reducible rfl)
    simp only [List.getElem_toArray, List.getElem_cons_zero, List.getElem_cons_succ, Act.put, List.setIfInBounds_toArray, List.set_cons_zero, List.set_cons_succ]
    refine wpAnyH_take (i := 7) (v := ?_) rfl (by kernel_rfl) (by kernel_rfl) (by kernel_rfl) (fun _ _ _ h => h) (Or.inl ⟨by kernel_rfl, ?_⟩) hS ?_
    rotate_left
    · intro w' hSw
      obtain ⟨g0, g1⟩ := hSw
      first | (go_simp; done) | (go_simp; with_reducible rfl)
    simp only [List.getElem_toArray, List.getElem_cons_zero, List.getElem_cons_succ, Act.put, List.setIfInBounds_toArray, List.set_cons_zero, List.set_cons_succ]
    refine wpAnyH_ready (rs := [1, 8]) (by kernel_rfl) (List.cons_ne_nil _ _) ?_
    refine AllReadyH.cons rfl (fun K hK => ?_) ?_
    · have zz11 : (Wd).cell? ⟨C0, 11, none⟩ = some (.slice ga gl.length gc) := HD0.out.b2.c 11 rfl
      go_simp
      refine hK.out _ _ (⟨(HD0.out).b1.c 0 rfl, (HD0.out).b1.c 1 rfl⟩) (fun hS => ?_)
      clear zz11
      clear hK
      try simp only [List.getElem_toArray, List.getElem_cons_zero, List.getElem_cons_succ, Act.put, List.setIfInBounds_toArray, List.set_cons_zero, List.set_cons_succ]
      refine wpAnyH_ready (rs := [8]) (by kernel_rfl) (List.cons_ne_nil _ _) ?_
      refine AllReadyH.cons rfl (fun K hK => ?_) AllReadyH.nil
      go_simp
      go_at_call 35
      refine (data_S x1 x2 _ (by omega) (by omega) (by omega)).mono ?_
      rintro e u8 ⟨rfl, hg⟩
      rw [HDD.out]
      have H8 := Lib.hid (HD0.out.keep hg)
      clear hg
      refine hK.out _ _ (⟨(H8.out).b1.c 0 rfl, (H8.out).b1.c 1 rfl⟩) (fun hS => ?_)
      clear hK
      try simp only [List.getElem_toArray, List.getElem_cons_zero, List.getElem_cons_succ, Act.put, List.setIfInBounds_toArray, List.set_cons_zero, List.set_cons_succ]
      refine wpAnyH_take (i := 9) (v := ?_) rfl (by kernel_rfl) (by kernel_rfl) (by kernel_rfl) (fun _ _ _ h => h) (Or.inl ⟨by kernel_rfl, ?_⟩) hS ?_
      rotate_left
      · intro w' hSw
        obtain ⟨g0, g1⟩ := hSw
        first | (go_simp; done) | (go_simp; with_reducible rfl)
      simp only [List.getElem_toArray, List.getElem_cons_zero, List.getElem_cons_succ, Act.put, List.setIfInBounds_toArray, List.set_cons_zero, List.set_cons_succ]
      exact tail u8 H8.out
    refine AllReadyH.cons rfl (fun K hK => ?_) ?_
    · go_simp
      go_at_call 35
      refine (data_S x1 x2 _ (by omega) (by omega) (by omega)).mono ?_
      rintro e u8 ⟨rfl, hg⟩
      rw [HDD.out]
      have H8 := Lib.hid (HD0.out.keep hg)
      clear hg
      refine hK.out _ _ (⟨(H8.out).b1.c 0 rfl, (H8.out).b1.c 1 rfl⟩) (fun hS => ?_)
      clear hK
      try simp only [List.getElem_toArray, List.getElem_cons_zero, List.getElem_cons_succ, Act.put, List.setIfInBounds_toArray, List.set_cons_zero, List.set_cons_succ]
      refine wpAnyH_take (i := 9) (v := ?_) rfl (by kernel_rfl) (by kernel_rfl) (by kernel_rfl) (fun _ _ _ h => h) (Or.inl ⟨by kernel_rfl, ?_⟩) hS ?_
      rotate_left
      · intro w' hSw
        obtain ⟨g0, g1⟩ := hSw
        first | (go_simp; done) | (go_simp; with_reducible rfl)
      simp only [List.getElem_toArray, List.getElem_cons_zero, List.getElem_cons_succ, Act.put, List.setIfInBounds_toArray, List.set_cons_zero, List.set_cons_succ]
      refine wpAnyH_ready (rs := [1]) (by kernel_rfl) (List.cons_ne_nil _ _) ?_
      refine AllReadyH.cons rfl (fun K hK => ?_) AllReadyH.nil
      have zz11 : (u8).cell? ⟨C0, 11, none⟩ = some (.slice ga gl.length gc) := H8.out.b2.c 11 rfl
      go_simp
      refine hK.out _ _ (⟨(H8.out).b1.c 0 rfl, (H8.out).b1.c 1 rfl⟩) (fun hS => ?_)
      clear zz11
      clear hK
      try simp only [List.getElem_toArray, List.getElem_cons_zero, List.getElem_cons_succ, Act.put, List.setIfInBounds_toArray, List.set_cons_zero, List.set_cons_succ]
      exact tail u8 H8.out
    exact AllReadyH.nil
  case tl =>
    intro u8 hs
    have H8 := Lib.hid hs
    clear hs
    have hS := (show u8.cell? ⟨C1, 0, none⟩ = some (.int .i64 x1) ∧ u8.cell? ⟨C1, 1, none⟩ = some (.int .i64 x2) from ⟨(H8.out).b1.c 0 rfl, (H8.out).b1.c 1 rfl⟩)
    refine wpAnyH_ready (rs := [10]) (by kernel_rfl) (List.cons_ne_nil _ _) ?_
    refine AllReadyH.cons rfl (fun K hK => ?_) AllReadyH.nil
    go_simp
    go_at_call 47
    refine (P7.added_spec1 ga gc gl x1 D _ H8.out.l.g.at HPC.out (by omega) (by omega) HDL.out.1 (by have := HDL.out.2; omega)).mono ?_
    rintro e u10 ⟨v, rfl, hg, ho⟩
    obtain ⟨ga2, gc2, rfl⟩ := own_slice ho
    have hwl := P7.with_len gl (x1, D)
    have H10 := Lib.hid (H8.out.newG hg ho)
    clear hg ho
    generalize P7.withL gl (x1, D) = gl2 at *
    refine hK.out _ _ (⟨(H10.out).b1.c 0 rfl, (H10.out).b1.c 1 rfl⟩) (fun hS => ?_)
    clear hK
    try simp only [List.getElem_toArray, List.getElem_cons_zero, List.getElem_cons_succ, Act.put, List.setIfInBounds_toArray, List.set_cons_zero, List.set_cons_succ]
    refine wpAnyH_take (i := 11) (v := ?_) rfl (by kernel_rfl) (by kernel_rfl) (by kernel_rfl) (fun _ _ _ h => h) (Or.inl ⟨by kernel_rfl, ?_⟩) hS ?_
    rotate_left
    · intro w' hSw
      obtain ⟨g0, g1⟩ := hSw
      first | (go_simp; done) | (go_simp; with_reducible rfl)
    simp only [List.getElem_toArray, List.getElem_cons_zero, List.getElem_cons_succ, Act.put, List.setIfInBounds_toArray, List.set_cons_zero, List.set_cons_succ]
    refine wpAnyH_ready (rs := [12]) (by kernel_rfl) (List.cons_ne_nil _ _) ?_
    refine AllReadyH.cons rfl (fun K hK => ?_) AllReadyH.nil
    have zz11 : (u10).cell? ⟨C0, 11, none⟩ = some (.slice ga gl.length gc) := H10.out.b2.c 11 rfl
    have f11 := H10.out.b2.f 11
    have lr := H10.out.b2.lt
    go_simp
    have k1_11 : Sw w B X [(C2, 53, #[.int .i64 0, .int .i64 0, .int .i64 0, .int .i64 0, .int .i64 0, .int .i64 0, .int .i64 0, .int .i64 0, .int .i64 0, .int .i64 0, .slice none 0 0, .slice none 0 0, .slice none 0 0, .slice none 0 0, .slice none 0 0]), (C1, 44, #[.int .i64 x1, .int .i64 x2]), (C0, 53, #[.int .i64 t, .int .i64 m, .int .i64 y, .int .i64 z, .int .i64 p, .int .i64 d, .int .i64 o, .int .i64 g, .int .i64 u, .int .i64 n, .slice sa sl.length sc, .slice ga2 gl2.length gc2, .slice da dl.length dc, .slice ua ul.length uc, .slice na nl.length nc])] sa sc sl ga2 gc2 gl2 da dc dl ua uc ul na nc nl (u10.setCell ⟨C0, 11, none⟩ (.slice ga2 gl2.length gc2)) := H10.out.p2 11 (.slice ga2 gl2.length gc2)
    refine gen_wr (P := fun V => Sw w B X [(C2, 53, #[.int .i64 0, .int .i64 0, .int .i64 0, .int .i64 0, .int .i64 0, .int .i64 0, .int .i64 0, .int .i64 0, .int .i64 0, .int .i64 0, .slice none 0 0, .slice none 0 0, .slice none 0 0, .slice none 0 0, .slice none 0 0]), (C1, 44, #[.int .i64 x1, .int .i64 x2]), (C0, 53, #[.int .i64 t, .int .i64 m, .int .i64 y, .int .i64 z, .int .i64 p, .int .i64 d, .int .i64 o, .int .i64 g, .int .i64 u, .int .i64 n, .slice sa sl.length sc, .slice ga2 gl2.length gc2, .slice da dl.length dc, .slice ua ul.length uc, .slice na nl.length nc])] sa sc sl ga2 gc2 gl2 da dc dl ua uc ul na nc nl V) k1_11 (fun w2 hz => ?_)
    clear lr zz11 f11 k1_11
    have H2 := Lib.hid hz
    clear hz H8 H10
    refine hK.out _ _ (⟨(H2.out).b1.c 0 rfl, (H2.out).b1.c 1 rfl⟩) (fun hS => ?_)
    clear hK
    try simp only [List.getElem_toArray, List.getElem_cons_zero, List.getElem_cons_succ, Act.put, List.setIfInBounds_toArray, List.set_cons_zero, List.set_cons_succ]
    refine wpAnyH_done (by kernel_rfl) ?_ _
    clear hS
    have hgl2 : gl2.length ≤ 1000 := by omega
    go_upto_region 2 with fail
    have c11 : (w2).cell? ⟨C0, 11, none⟩ = some (.slice ga2 gl2.length gc2) := H2.out.b2.c 11 rfl
    go_wp2_with fail
    refine (P7.pref_spec ga2 gc2 gl2 _ H2.out.l.g.at (by omega)).mono ?_
    rintro e w3 ⟨rfl, hg⟩
    have H3 := Lib.hid (H2.out.keep hg)
    clear hg c11 H2
    obtain ⟨P, hP⟩ : ∃ P : Int, ((prefL gl2).length : Int) = P := ⟨_, rfl⟩
    have HPP := Lib.hid hP
    have HA := Lib.hid (H3.out.new 33 #[.int .i64 2, .int .i64 P, .int .i64 0, .slice none 0 0])
    go_upto_region 3 with fail
    try rw [hP]
    try simp only [hP]
    clear hP
    generalize w3.alloc (.cells #[.int .i64 2, .int .i64 P, .int .i64 0, .slice none 0 0] 33) = w4 at *
    generalize w3.heap.size = C3 at *
    have HK0 := Lib.hid (show DnRel w B X [(C2, 53, #[.int .i64 0, .int .i64 0, .int .i64 0, .int .i64 0, .int .i64 0, .int .i64 0, .int .i64 0, .int .i64 0, .int .i64 0, .int .i64 0, .slice none 0 0, .slice none 0 0, .slice none 0 0, .slice none 0 0, .slice none 0 0]), (C1, 44, #[.int .i64 x1, .int .i64 x2]), (C0, 53, #[.int .i64 t, .int .i64 m, .int .i64 y, .int .i64 z, .int .i64 p, .int .i64 d, .int .i64 o, .int .i64 g, .int .i64 u, .int .i64 n, .slice sa sl.length sc, .slice ga2 gl2.length gc2, .slice da dl.length dc, .slice ua ul.length uc, .slice na nl.length nc])] C3 P gl2.length sa sc sl ga2 gc2 gl2 da dc dl ua uc ul na nc nl (.int .i64 0) w4 from ⟨0, none, 0, [], rfl, Nat.zero_le _, by simp, .inl ⟨rfl, rfl, rfl, HA.out⟩⟩)
    clear HA H3
    go_wp2_with fail
    go_loopw [6] (fun i wr => DnRel w B X [(C2, 53, #[.int .i64 0, .int .i64 0, .int .i64 0, .int .i64 0, .int .i64 0, .int .i64 0, .int .i64 0, .int .i64 0, .int .i64 0, .int .i64 0, .slice none 0 0, .slice none 0 0, .slice none 0 0, .slice none 0 0, .slice none 0 0]), (C1, 44, #[.int .i64 x1, .int .i64 x2]), (C0, 53, #[.int .i64 t, .int .i64 m, .int .i64 y, .int .i64 z, .int .i64 p, .int .i64 d, .int .i64 o, .int .i64 g, .int .i64 u, .int .i64 n, .slice sa sl.length sc, .slice ga2 gl2.length gc2, .slice da dl.length dc, .slice ua ul.length uc, .slice na nl.length nc])] C3 P gl2.length sa sc sl ga2 gc2 gl2 da dc dl ua uc ul na nc nl i wr) (fun i _ => gl2.length - (intOf i).toNat)
    case atStart => exact HK0.out
    case round =>
      clear HK0
      obtain ⟨j, aa, ac, al, rfl, hj, h3, hk⟩ := hrel
      have HK := Lib.hid hk
      clear hk
      have c11 : wr.cell? ⟨C0, 11, none⟩ = some (.slice ga2 gl2.length gc2) := HK.out.sw.b3.c 11 rfl
      have n3 : wr.cell? ⟨C3, 3, none⟩ = some (.slice aa al.length ac) := HK.out.sw.b0.c 3 rfl
      have n1 : wr.cell? ⟨C3, 1, none⟩ = some (.int .i64 P) := HK.out.sw.b0.c 1 rfl
      by_cases hlt : j < gl2.length
      · have hlt2 : (j : Int) < (gl2.length : Int) := by omega
        by_cases h32 : al.length < 3
        · have h33 : (al.length : Int) < 3 := by omega
          rcases HK.out.sw.l.g with ⟨_, _, h0⟩ | ⟨b, off, rfl, hb, hcs⟩
          · rw [h0] at hlt
            simp at hlt
          · obtain ⟨p0, p1⟩ := hcs j hlt
            clear hcs hb
            generalize gl2[j] = yy at *
            obtain ⟨py, dy⟩ := yy
            dsimp only at p0 p1
            obtain ⟨q, hq⟩ : ∃ q, IntKind.i64.wrap (py + (dy.length : Int)) = q := ⟨_, rfl⟩
            have HP := Lib.hid (And.intro (HK.out.keep (World.grownBy_alloc wr (.cells #[.int .i64 py, .string ⟨dy.toArray⟩] 73) none)) (Bx.new wr 73 #[.int .i64 py, .string ⟨dy.toArray⟩]))
            go_upto_region 7 with fail
            clear c11 n3 n1 p0 p1
            generalize wr.alloc (.cells #[.int .i64 py, .string ⟨dy.toArray⟩] 73) = w5 at *
            generalize wr.heap.size = C4 at *
            have d0 : w5.cell? ⟨C4, 0, none⟩ = some (.int .i64 py) := HP.out.2.c 0 rfl
            have d1 : w5.cell? ⟨C4, 1, none⟩ = some (.string ⟨dy.toArray⟩) := HP.out.2.c 1 rfl
            have n3 : w5.cell? ⟨C3, 3, none⟩ = some (.slice aa al.length ac) := HP.out.1.sw.b0.c 3 rfl
            have n1 : w5.cell? ⟨C3, 1, none⟩ = some (.int .i64 P) := HP.out.1.sw.b0.c 1 rfl
            by_cases hp : P < py
            · go_upto_region 8 with fail
              have HO := Lib.hid (own_kept HP.out.1.own (World.grownBy_alloc w5 (.cells #[.int .i64 py, .int .i64 q] 44) none))
              go_wp2_with (at_builtin; refine wpList_append_lies _ rfl _ _ 31 rfl 0 44 i0 _ 2 16 Try.underlying31 hi hz0 hz1 hz2 rfl (by decide) _ _ _ rfl HO.out ⟨w5.heap.size, 0, none⟩ 1 1 [.int .i64 py, .int .i64 q] rfl rfl ?c1 ?c2 (by decide) ?c3 ?c4 ?c5 (w5.heap.size + 1) (by simp) ?_)
              case c1 => exact World.news_of_block (World.alloc_heap_new w5 _)
              case c2 => intro u hu; simp only [List.mem_cons, List.not_mem_nil, or_false] at hu; rcases hu with rfl | rfl <;> rfl
              case c3 => unfold maxLen; omega
              case c4 => omega
              case c5 => simp only [World.size_alloc]; omega
              intro g6 cc6 w6 hr hg hat hlt6
              have HQ := Lib.hid ((HP.out.1.keep (World.grownBy_alloc _ _ _)).push (x := (py, q)) hr hg hat (by simp))
              clear hr hg hat HO n3 n1 d0 d1
              have n3 : w6.cell? ⟨C3, 3, none⟩ = some (.slice aa al.length ac) := HQ.out.sw.b0.c 3 rfl
              have f3 := HQ.out.sw.b0.f 3
              have HR := Lib.hid (HQ.out.set 3 (.slice (some ⟨g6, 0, none⟩) (al.length + 1) cc6))
              go_upto_region 5 with fail
              clear n3 f3 hlt6
              generalize w6.setCell ⟨C3, 3, none⟩ (.slice (some ⟨g6, 0, none⟩) (al.length + 1) cc6) = w7 at *
              have e7 : (al ++ [((py, q) : Rg)]).length = al.length + 1 := by simp
              have HE7 := Lib.hid e7
              clear e7
              go_wp2_with fail
              go_roundw
              case rel => exact ⟨j + 1, some ⟨g6, 0, none⟩, cc6, al ++ [(py, q)], by go_num, hlt, by rw [HE7.out]; omega, by rw [HE7.out]; exact HR.out⟩
              case measure => simp [intOf]; omega
            · go_wp2_with fail
              go_roundw
              case rel => exact ⟨j + 1, aa, ac, al, by go_num, hlt, h3, HP.out.1⟩
              case measure => simp [intOf]; omega
        · have h33 : ¬ (al.length : Int) < 3 := by omega
          have HT := Lib.hid (And.intro HK.out.sw (HK.out.stN 2 P 0))
          go_upto_region 9 with fail
          clear n3 n1 c11
          have c13 : (wr).cell? ⟨C0, 13, none⟩ = some (.slice ua ul.length uc) := HT.out.1.b3.c 13 rfl
          have e0 : (wr).cell? ⟨C3, 0, none⟩ = some (.int .i64 2) := HT.out.1.b0.c 0 rfl
          have e1 : (wr).cell? ⟨C3, 1, none⟩ = some (.int .i64 P) := HT.out.1.b0.c 1 rfl
          have e2 : (wr).cell? ⟨C3, 2, none⟩ = some (.int .i64 0) := HT.out.1.b0.c 2 rfl
          have e3 : (wr).cell? ⟨C3, 3, none⟩ = some (.slice aa al.length ac) := HT.out.1.b0.c 3 rfl
          have hszr := HT.out.1.k.size
          have HO := Lib.hid (HT.out.1.l.kept (World.grownBy_alloc wr (.cells #[.int .i64 2, .int .i64 P, .int .i64 0, .slice aa al.length ac] 33) none)).u
          go_wp2_with (at_builtin; refine wpList_append_lies _ rfl _ _ 24 rfl B 33 i1 _ 4 48 Try.underlying24 ki kz0 kz1 kz2 rfl (by decide) _ _ _ rfl HO.out ⟨wr.heap.size, 0, none⟩ 1 1 [.int .i64 2, .int .i64 P, .int .i64 0, .slice aa al.length ac] rfl rfl ?k1 ?k2 (by decide) ?k3 ?k4 ?k5 (wr.heap.size + 1) (by simp) ?_)
          try (case k1 => exact World.news_of_block (World.alloc_heap_new wr _))
          case k2 => first | exact ⟨rfl, rfl, rfl, rfl⟩ | (intro u hu; simp only [List.mem_cons, List.not_mem_nil, or_false] at hu; rcases hu with rfl | rfl | rfl | rfl <;> rfl)
          case k3 => first | omega | (unfold maxLen; omega)
          case k4 => omega
          case k5 => first | omega | (simp only [World.size_alloc]; omega)
          intro g8 cc8 w8 hr hg hat hlt8
          obtain ⟨ul2, hul2⟩ : ∃ q, q = ul ++ [(⟨2, P, 0, aa, ac, al⟩ : Nt)] := ⟨_, rfl⟩
          have hl2 : ul.length + 1 = ul2.length := by simp [hul2]
          have k := ((HT.out.1.keep (World.grownBy_alloc _ _ _)).pushU (x := ⟨2, P, 0, aa, ac, al⟩) hr hg hat (by simp) (HT.out.2.of (World.grownBy_alloc wr (.cells #[.int .i64 2, .int .i64 P, .int .i64 0, .slice aa al.length ac] 33) none).size fun b hb => (World.grownBy_alloc wr (.cells #[.int .i64 2, .int .i64 P, .int .i64 0, .slice aa al.length ac] 33) none).block b (HT.out.2.2.lt b hb) (by simp)))
          rw [← hul2] at k
          have H8 := Lib.hid k
          have HN2 := Lib.hid (And.intro hul2 hl2)
          rw [hl2]
          clear k hul2 hl2 hr hg hat HO c13 e0 e1 e2 e3
          have c13 : (w8).cell? ⟨C0, 13, none⟩ = some (.slice ua ul.length uc) := H8.out.b3.c 13 rfl
          have f13 := H8.out.b3.f 13
          have k2_13 : Sw w B X [(C3, 33, #[.int .i64 2, .int .i64 P, .int .i64 0, .slice aa al.length ac]), (C2, 53, #[.int .i64 0, .int .i64 0, .int .i64 0, .int .i64 0, .int .i64 0, .int .i64 0, .int .i64 0, .int .i64 0, .int .i64 0, .int .i64 0, .slice none 0 0, .slice none 0 0, .slice none 0 0, .slice none 0 0, .slice none 0 0]), (C1, 44, #[.int .i64 x1, .int .i64 x2]), (C0, 53, #[.int .i64 t, .int .i64 m, .int .i64 y, .int .i64 z, .int .i64 p, .int .i64 d, .int .i64 o, .int .i64 g, .int .i64 u, .int .i64 n, .slice sa sl.length sc, .slice ga2 gl2.length gc2, .slice da dl.length dc, .slice (some ⟨g8, 0, none⟩) ul2.length cc8, .slice na nl.length nc])] sa sc sl ga2 gc2 gl2 da dc dl (some ⟨g8, 0, none⟩) cc8 ul2 na nc nl (w8.setCell ⟨C0, 13, none⟩ (.slice (some ⟨g8, 0, none⟩) ul2.length cc8)) := H8.out.p3 13 (.slice (some ⟨g8, 0, none⟩) ul2.length cc8)
          have H9 := Lib.hid k2_13
          clear k2_13
          go_upto_region 10 with fail
          clear c13 f13 hlt8 H8
          generalize (w8.setCell ⟨C0, 13, none⟩ (.slice (some ⟨g8, 0, none⟩) ul2.length cc8)) = w9 at *
          have oo0 : (w9).cell? ⟨C0, 0, none⟩ = some (.int .i64 t) := H9.out.b3.c 0 rfl
          have oo1 : (w9).cell? ⟨C0, 1, none⟩ = some (.int .i64 m) := H9.out.b3.c 1 rfl
          have oo2 : (w9).cell? ⟨C0, 2, none⟩ = some (.int .i64 y) := H9.out.b3.c 2 rfl
          have oo3 : (w9).cell? ⟨C0, 3, none⟩ = some (.int .i64 z) := H9.out.b3.c 3 rfl
          have oo4 : (w9).cell? ⟨C0, 4, none⟩ = some (.int .i64 p) := H9.out.b3.c 4 rfl
          have oo5 : (w9).cell? ⟨C0, 5, none⟩ = some (.int .i64 d) := H9.out.b3.c 5 rfl
          have oo6 : (w9).cell? ⟨C0, 6, none⟩ = some (.int .i64 o) := H9.out.b3.c 6 rfl
          have oo7 : (w9).cell? ⟨C0, 7, none⟩ = some (.int .i64 g) := H9.out.b3.c 7 rfl
          have oo8 : (w9).cell? ⟨C0, 8, none⟩ = some (.int .i64 u) := H9.out.b3.c 8 rfl
          have oo9 : (w9).cell? ⟨C0, 9, none⟩ = some (.int .i64 n) := H9.out.b3.c 9 rfl
          have oo10 : (w9).cell? ⟨C0, 10, none⟩ = some (.slice sa sl.length sc) := H9.out.b3.c 10 rfl
          have oo11 : (w9).cell? ⟨C0, 11, none⟩ = some (.slice ga2 gl2.length gc2) := H9.out.b3.c 11 rfl
          have oo12 : (w9).cell? ⟨C0, 12, none⟩ = some (.slice da dl.length dc) := H9.out.b3.c 12 rfl
          have oo13 : (w9).cell? ⟨C0, 13, none⟩ = some (.slice (some ⟨g8, 0, none⟩) ul2.length cc8) := H9.out.b3.c 13 rfl
          have oo14 : (w9).cell? ⟨C0, 14, none⟩ = some (.slice na nl.length nc) := H9.out.b3.c 14 rfl
          have r0 : (w9).cell? ⟨C2, 0, none⟩ = some (.int .i64 0) := H9.out.b1.c 0 rfl
          have r1 : (w9).cell? ⟨C2, 1, none⟩ = some (.int .i64 0) := H9.out.b1.c 1 rfl
          have r2 : (w9).cell? ⟨C2, 2, none⟩ = some (.int .i64 0) := H9.out.b1.c 2 rfl
          have r3 : (w9).cell? ⟨C2, 3, none⟩ = some (.int .i64 0) := H9.out.b1.c 3 rfl
          have r4 : (w9).cell? ⟨C2, 4, none⟩ = some (.int .i64 0) := H9.out.b1.c 4 rfl
          have r5 : (w9).cell? ⟨C2, 5, none⟩ = some (.int .i64 0) := H9.out.b1.c 5 rfl
          have r6 : (w9).cell? ⟨C2, 6, none⟩ = some (.int .i64 0) := H9.out.b1.c 6 rfl
          have r7 : (w9).cell? ⟨C2, 7, none⟩ = some (.int .i64 0) := H9.out.b1.c 7 rfl
          have r8 : (w9).cell? ⟨C2, 8, none⟩ = some (.int .i64 0) := H9.out.b1.c 8 rfl
          have r9 : (w9).cell? ⟨C2, 9, none⟩ = some (.int .i64 0) := H9.out.b1.c 9 rfl
          have r10 : (w9).cell? ⟨C2, 10, none⟩ = some (.slice none 0 0) := H9.out.b1.c 10 rfl
          have r11 : (w9).cell? ⟨C2, 11, none⟩ = some (.slice none 0 0) := H9.out.b1.c 11 rfl
          have r12 : (w9).cell? ⟨C2, 12, none⟩ = some (.slice none 0 0) := H9.out.b1.c 12 rfl
          have r13 : (w9).cell? ⟨C2, 13, none⟩ = some (.slice none 0 0) := H9.out.b1.c 13 rfl
          have r14 : (w9).cell? ⟨C2, 14, none⟩ = some (.slice none 0 0) := H9.out.b1.c 14 rfl
          have f0 := H9.out.b1.f 0
          have f1 := H9.out.b1.f 1
          have f2 := H9.out.b1.f 2
          have f3 := H9.out.b1.f 3
          have f4 := H9.out.b1.f 4
          have f5 := H9.out.b1.f 5
          have f6 := H9.out.b1.f 6
          have f7 := H9.out.b1.f 7
          have f8 := H9.out.b1.f 8
          have f9 := H9.out.b1.f 9
          have f10 := H9.out.b1.f 10
          have f11 := H9.out.b1.f 11
          have f12 := H9.out.b1.f 12
          have f13 := H9.out.b1.f 13
          have f14 := H9.out.b1.f 14
          have lr := H9.out.b1.lt
          obtain ⟨ys0, k0⟩ := (H9.out).any1 0 (.int .i64 t)
          obtain ⟨ys1, k1⟩ := (k0).any1 1 (.int .i64 m)
          obtain ⟨ys2, k2⟩ := (k1).any1 2 (.int .i64 y)
          obtain ⟨ys3, k3⟩ := (k2).any1 3 (.int .i64 z)
          obtain ⟨ys4, k4⟩ := (k3).any1 4 (.int .i64 p)
          obtain ⟨ys5, k5⟩ := (k4).any1 5 (.int .i64 d)
          obtain ⟨ys6, k6⟩ := (k5).any1 6 (.int .i64 o)
          obtain ⟨ys7, k7⟩ := (k6).any1 7 (.int .i64 g)
          obtain ⟨ys8, k8⟩ := (k7).any1 8 (.int .i64 u)
          obtain ⟨ys9, k9⟩ := (k8).any1 9 (.int .i64 n)
          obtain ⟨ys10, k10⟩ := (k9).any1 10 (.slice sa sl.length sc)
          obtain ⟨ys11, k11⟩ := (k10).any1 11 (.slice ga2 gl2.length gc2)
          obtain ⟨ys12, k12⟩ := (k11).any1 12 (.slice da dl.length dc)
          obtain ⟨ys13, k13⟩ := (k12).any1 13 (.slice (some ⟨g8, 0, none⟩) ul2.length cc8)
          obtain ⟨ys14, k14⟩ := (k13).any1 14 (.slice na nl.length nc)
          have HK := Lib.hid k14
          clear k0 k1 k2 k3 k4 k5 k6 k7 k8 k9 k10 k11 k12 k13 k14
          go_wp2_with fail
          refine bodyPost_ret (v := .agg #[.int .i64 t, .int .i64 m, .int .i64 y, .int .i64 z, .int .i64 p, .int .i64 d, .int .i64 o, .int .i64 g, .int .i64 u, .int .i64 n, .slice sa sl.length sc, .slice ga2 gl2.length gc2, .slice da dl.length dc, .slice (some ⟨g8, 0, none⟩) ul2.length cc8, .slice na nl.length nc]) (by simp [results, Try.results40, go_sem, r0, r1, r2, r3, r4, r5, r6, r7, r8, r9, r10, r11, r12, r13, r14]) rfl ?_
          refine ⟨⟨t, m, y, z, p, d, o, g, u, n, sa, sc, sl, ga2, gc2, gl2, da, dc, dl, some ⟨g8, 0, none⟩, cc8, ul2, na, nc, nl⟩, by simp [Wv.v], HK.out.fin.1, HK.out.fin.2, ?_⟩
          unfold Wv.le
          dsimp only
          exact ⟨hsl, hgl2, Nat.le_refl _, by have := HN2.out.2; omega, Nat.le_refl _, fun q hq => (List.mem_append.mp (HN2.out.1 ▸ hq)).elim (hum q) fun e => (by rw [List.mem_singleton.mp e]; exact h3), hnm⟩
      · have hlt2 : ¬ (j : Int) < (gl2.length : Int) := by omega
        have hg2 : decide ((j : Int) < (gl2.length : Int)) = false := decide_eq_false hlt2
        clear hlt2
        have HT := Lib.hid (And.intro HK.out.sw (HK.out.stN 2 P 0))
        go_upto_region 9 with fail
        clear n3 n1 c11
        have c13 : (wr).cell? ⟨C0, 13, none⟩ = some (.slice ua ul.length uc) := HT.out.1.b3.c 13 rfl
        have e0 : (wr).cell? ⟨C3, 0, none⟩ = some (.int .i64 2) := HT.out.1.b0.c 0 rfl
        have e1 : (wr).cell? ⟨C3, 1, none⟩ = some (.int .i64 P) := HT.out.1.b0.c 1 rfl
        have e2 : (wr).cell? ⟨C3, 2, none⟩ = some (.int .i64 0) := HT.out.1.b0.c 2 rfl
        have e3 : (wr).cell? ⟨C3, 3, none⟩ = some (.slice aa al.length ac) := HT.out.1.b0.c 3 rfl
        have hszr := HT.out.1.k.size
        have HO := Lib.hid (HT.out.1.l.kept (World.grownBy_alloc wr (.cells #[.int .i64 2, .int .i64 P, .int .i64 0, .slice aa al.length ac] 33) none)).u
        go_wp2_with (at_builtin; refine wpList_append_lies _ rfl _ _ 24 rfl B 33 i1 _ 4 48 Try.underlying24 ki kz0 kz1 kz2 rfl (by decide) _ _ _ rfl HO.out ⟨wr.heap.size, 0, none⟩ 1 1 [.int .i64 2, .int .i64 P, .int .i64 0, .slice aa al.length ac] rfl rfl ?g1 ?g2 (by decide) ?g3 ?g4 ?g5 (wr.heap.size + 1) (by simp) ?_)
        case g1 => exact World.news_of_block (World.alloc_heap_new wr _)
        case g2 => intro u hu; simp only [List.mem_cons, List.not_mem_nil, or_false] at hu; rcases hu with rfl | rfl | rfl | rfl <;> rfl
        case g3 => unfold maxLen; omega
        case g4 => omega
        case g5 => simp only [World.size_alloc]; omega
        intro g8 cc8 w8 hr hg hat hlt8
        obtain ⟨ul2, hul2⟩ : ∃ q, q = ul ++ [(⟨2, P, 0, aa, ac, al⟩ : Nt)] := ⟨_, rfl⟩
        have hl2 : ul.length + 1 = ul2.length := by simp [hul2]
        have k := ((HT.out.1.keep (World.grownBy_alloc _ _ _)).pushU (x := ⟨2, P, 0, aa, ac, al⟩) hr hg hat (by simp) (HT.out.2.of (World.grownBy_alloc wr (.cells #[.int .i64 2, .int .i64 P, .int .i64 0, .slice aa al.length ac] 33) none).size fun b hb => (World.grownBy_alloc wr (.cells #[.int .i64 2, .int .i64 P, .int .i64 0, .slice aa al.length ac] 33) none).block b (HT.out.2.2.lt b hb) (by simp)))
        rw [← hul2] at k
        have H8 := Lib.hid k
        have HN2 := Lib.hid (And.intro hul2 hl2)
        rw [hl2]
        clear k hul2 hl2 hr hg hat HO c13 e0 e1 e2 e3
        have c13 : (w8).cell? ⟨C0, 13, none⟩ = some (.slice ua ul.length uc) := H8.out.b3.c 13 rfl
        have f13 := H8.out.b3.f 13
        have k3_13 : Sw w B X [(C3, 33, #[.int .i64 2, .int .i64 P, .int .i64 0, .slice aa al.length ac]), (C2, 53, #[.int .i64 0, .int .i64 0, .int .i64 0, .int .i64 0, .int .i64 0, .int .i64 0, .int .i64 0, .int .i64 0, .int .i64 0, .int .i64 0, .slice none 0 0, .slice none 0 0, .slice none 0 0, .slice none 0 0, .slice none 0 0]), (C1, 44, #[.int .i64 x1, .int .i64 x2]), (C0, 53, #[.int .i64 t, .int .i64 m, .int .i64 y, .int .i64 z, .int .i64 p, .int .i64 d, .int .i64 o, .int .i64 g, .int .i64 u, .int .i64 n, .slice sa sl.length sc, .slice ga2 gl2.length gc2, .slice da dl.length dc, .slice (some ⟨g8, 0, none⟩) ul2.length cc8, .slice na nl.length nc])] sa sc sl ga2 gc2 gl2 da dc dl (some ⟨g8, 0, none⟩) cc8 ul2 na nc nl (w8.setCell ⟨C0, 13, none⟩ (.slice (some ⟨g8, 0, none⟩) ul2.length cc8)) := H8.out.p3 13 (.slice (some ⟨g8, 0, none⟩) ul2.length cc8)
        have H9 := Lib.hid k3_13
        clear k3_13
        go_upto_region 10 with fail
        clear c13 f13 hlt8 H8
        generalize (w8.setCell ⟨C0, 13, none⟩ (.slice (some ⟨g8, 0, none⟩) ul2.length cc8)) = w9 at *
        have oo0 : (w9).cell? ⟨C0, 0, none⟩ = some (.int .i64 t) := H9.out.b3.c 0 rfl
        have oo1 : (w9).cell? ⟨C0, 1, none⟩ = some (.int .i64 m) := H9.out.b3.c 1 rfl
        have oo2 : (w9).cell? ⟨C0, 2, none⟩ = some (.int .i64 y) := H9.out.b3.c 2 rfl
        have oo3 : (w9).cell? ⟨C0, 3, none⟩ = some (.int .i64 z) := H9.out.b3.c 3 rfl
        have oo4 : (w9).cell? ⟨C0, 4, none⟩ = some (.int .i64 p) := H9.out.b3.c 4 rfl
        have oo5 : (w9).cell? ⟨C0, 5, none⟩ = some (.int .i64 d) := H9.out.b3.c 5 rfl
        have oo6 : (w9).cell? ⟨C0, 6, none⟩ = some (.int .i64 o) := H9.out.b3.c 6 rfl
        have oo7 : (w9).cell? ⟨C0, 7, none⟩ = some (.int .i64 g) := H9.out.b3.c 7 rfl
        have oo8 : (w9).cell? ⟨C0, 8, none⟩ = some (.int .i64 u) := H9.out.b3.c 8 rfl
        have oo9 : (w9).cell? ⟨C0, 9, none⟩ = some (.int .i64 n) := H9.out.b3.c 9 rfl
        have oo10 : (w9).cell? ⟨C0, 10, none⟩ = some (.slice sa sl.length sc) := H9.out.b3.c 10 rfl
        have oo11 : (w9).cell? ⟨C0, 11, none⟩ = some (.slice ga2 gl2.length gc2) := H9.out.b3.c 11 rfl
        have oo12 : (w9).cell? ⟨C0, 12, none⟩ = some (.slice da dl.length dc) := H9.out.b3.c 12 rfl
        have oo13 : (w9).cell? ⟨C0, 13, none⟩ = some (.slice (some ⟨g8, 0, none⟩) ul2.length cc8) := H9.out.b3.c 13 rfl
        have oo14 : (w9).cell? ⟨C0, 14, none⟩ = some (.slice na nl.length nc) := H9.out.b3.c 14 rfl
        have r0 : (w9).cell? ⟨C2, 0, none⟩ = some (.int .i64 0) := H9.out.b1.c 0 rfl
        have r1 : (w9).cell? ⟨C2, 1, none⟩ = some (.int .i64 0) := H9.out.b1.c 1 rfl
        have r2 : (w9).cell? ⟨C2, 2, none⟩ = some (.int .i64 0) := H9.out.b1.c 2 rfl
        have r3 : (w9).cell? ⟨C2, 3, none⟩ = some (.int .i64 0) := H9.out.b1.c 3 rfl
        have r4 : (w9).cell? ⟨C2, 4, none⟩ = some (.int .i64 0) := H9.out.b1.c 4 rfl
        have r5 : (w9).cell? ⟨C2, 5, none⟩ = some (.int .i64 0) := H9.out.b1.c 5 rfl
        have r6 : (w9).cell? ⟨C2, 6, none⟩ = some (.int .i64 0) := H9.out.b1.c 6 rfl
        have r7 : (w9).cell? ⟨C2, 7, none⟩ = some (.int .i64 0) := H9.out.b1.c 7 rfl
        have r8 : (w9).cell? ⟨C2, 8, none⟩ = some (.int .i64 0) := H9.out.b1.c 8 rfl
        have r9 : (w9).cell? ⟨C2, 9, none⟩ = some (.int .i64 0) := H9.out.b1.c 9 rfl
        have r10 : (w9).cell? ⟨C2, 10, none⟩ = some (.slice none 0 0) := H9.out.b1.c 10 rfl
        have r11 : (w9).cell? ⟨C2, 11, none⟩ = some (.slice none 0 0) := H9.out.b1.c 11 rfl
        have r12 : (w9).cell? ⟨C2, 12, none⟩ = some (.slice none 0 0) := H9.out.b1.c 12 rfl
        have r13 : (w9).cell? ⟨C2, 13, none⟩ = some (.slice none 0 0) := H9.out.b1.c 13 rfl
        have r14 : (w9).cell? ⟨C2, 14, none⟩ = some (.slice none 0 0) := H9.out.b1.c 14 rfl
        have f0 := H9.out.b1.f 0
        have f1 := H9.out.b1.f 1
        have f2 := H9.out.b1.f 2
        have f3 := H9.out.b1.f 3
        have f4 := H9.out.b1.f 4
        have f5 := H9.out.b1.f 5
        have f6 := H9.out.b1.f 6
        have f7 := H9.out.b1.f 7
        have f8 := H9.out.b1.f 8
        have f9 := H9.out.b1.f 9
        have f10 := H9.out.b1.f 10
        have f11 := H9.out.b1.f 11
        have f12 := H9.out.b1.f 12
        have f13 := H9.out.b1.f 13
        have f14 := H9.out.b1.f 14
        have lr := H9.out.b1.lt
        obtain ⟨ys0, k0⟩ := (H9.out).any1 0 (.int .i64 t)
        obtain ⟨ys1, k1⟩ := (k0).any1 1 (.int .i64 m)
        obtain ⟨ys2, k2⟩ := (k1).any1 2 (.int .i64 y)
        obtain ⟨ys3, k3⟩ := (k2).any1 3 (.int .i64 z)
        obtain ⟨ys4, k4⟩ := (k3).any1 4 (.int .i64 p)
        obtain ⟨ys5, k5⟩ := (k4).any1 5 (.int .i64 d)
        obtain ⟨ys6, k6⟩ := (k5).any1 6 (.int .i64 o)
        obtain ⟨ys7, k7⟩ := (k6).any1 7 (.int .i64 g)
        obtain ⟨ys8, k8⟩ := (k7).any1 8 (.int .i64 u)
        obtain ⟨ys9, k9⟩ := (k8).any1 9 (.int .i64 n)
        obtain ⟨ys10, k10⟩ := (k9).any1 10 (.slice sa sl.length sc)
        obtain ⟨ys11, k11⟩ := (k10).any1 11 (.slice ga2 gl2.length gc2)
        obtain ⟨ys12, k12⟩ := (k11).any1 12 (.slice da dl.length dc)
        obtain ⟨ys13, k13⟩ := (k12).any1 13 (.slice (some ⟨g8, 0, none⟩) ul2.length cc8)
        obtain ⟨ys14, k14⟩ := (k13).any1 14 (.slice na nl.length nc)
        have HK := Lib.hid k14
        clear k0 k1 k2 k3 k4 k5 k6 k7 k8 k9 k10 k11 k12 k13 k14
        go_wp2_with fail
        refine bodyPost_ret (v := .agg #[.int .i64 t, .int .i64 m, .int .i64 y, .int .i64 z, .int .i64 p, .int .i64 d, .int .i64 o, .int .i64 g, .int .i64 u, .int .i64 n, .slice sa sl.length sc, .slice ga2 gl2.length gc2, .slice da dl.length dc, .slice (some ⟨g8, 0, none⟩) ul2.length cc8, .slice na nl.length nc]) (by simp [results, Try.results40, go_sem, r0, r1, r2, r3, r4, r5, r6, r7, r8, r9, r10, r11, r12, r13, r14]) rfl ?_
        refine ⟨⟨t, m, y, z, p, d, o, g, u, n, sa, sc, sl, ga2, gc2, gl2, da, dc, dl, some ⟨g8, 0, none⟩, cc8, ul2, na, nc, nl⟩, by simp [Wv.v], HK.out.fin.1, HK.out.fin.2, ?_⟩
        unfold Wv.le
        dsimp only
        exact ⟨hsl, hgl2, Nat.le_refl _, by have := HN2.out.2; omega, Nat.le_refl _, fun q hq => (List.mem_append.mp (HN2.out.1 ▸ hq)).elim (hum q) fun e => (by rw [List.mem_singleton.mp e]; exact h3), hnm⟩

end Go.Proofs.Ytedhemllgpbheaa

