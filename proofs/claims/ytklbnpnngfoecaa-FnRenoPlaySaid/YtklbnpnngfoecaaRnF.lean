/- Windows: the drawing of a state. -/
import Derived.Test.YtklbnpnngfoecaaRnX
import Derived.Test.YtklbnpnngfoecaaRnE
import Derived.Deep.RegionWith
import Derived.Deep.DeepCutAuto
import Derived.LoopTactic
namespace Go.Proofs.Ytklbnpnngfoecaa
open Go.RowKit

def RnPost (w : World) (r : Nat) (e : Ending) (w' : World) : Prop :=
  ∃ m y l p d o g : Int, e = .returned (.agg #[.int .i64 m, .int .i64 y, .int .i64 l, .int .i64 p, .int .i64 d, .int .i64 o, .int .i64 g]) ∧ w.grownBy w' (some r) ∧ RdOk w' r

theorem Dst.oth {w : World} {r A : Nat} {ta : TypeId} {za : Array Value} {E : Nat} {te : TypeId} {xs : Array Value} {W : World} (k : Dst w r A ta za E te xs W) {B : Nat} (hB : E < B) (i : Nat) (v : Value) : Dst w r A ta za E te xs (W.setCell ⟨B, i, none⟩ v) := by
  have l1 := k.lr
  have l2 := k.la
  have l3 := k.le
  exact ⟨l1, l2, l3, gSr k.g (by omega) _ _, rd_set k.rd (by omega) _ _, k.a.other (by omega) _ _, k.b.other (by omega) _ _⟩
theorem seven {w : World} {r A : Nat} {ta : TypeId} {za : Array Value} {E : Nat} {te : TypeId} {xs : Array Value} {W : World} (k : Dst w r A ta za E te xs W) {B : Nat} {x0 x1 x2 x3 x4 x5 x6 : Value} (h : Bx W B 25 #[x0, x1, x2, x3, x4, x5, x6]) (hB : E < B) (v0 v1 v2 v3 v4 v5 v6 : Value) :
    Bx (((((((W.setCell ⟨B, 0, none⟩ v0).setCell ⟨B, 1, none⟩ v1).setCell ⟨B, 2, none⟩ v2).setCell ⟨B, 3, none⟩ v3).setCell ⟨B, 4, none⟩ v4).setCell ⟨B, 5, none⟩ v5).setCell ⟨B, 6, none⟩ v6) B 25 #[v0, v1, v2, v3, v4, v5, v6] ∧ Dst w r A ta za E te xs (((((((W.setCell ⟨B, 0, none⟩ v0).setCell ⟨B, 1, none⟩ v1).setCell ⟨B, 2, none⟩ v2).setCell ⟨B, 3, none⟩ v3).setCell ⟨B, 4, none⟩ v4).setCell ⟨B, 5, none⟩ v5).setCell ⟨B, 6, none⟩ v6) := by
  have h0 : Bx _ B 25 #[v0, x1, x2, x3, x4, x5, x6] := h.s 0 v0
  have h1 : Bx _ B 25 #[v0, v1, x2, x3, x4, x5, x6] := h0.s 1 v1
  have h2 : Bx _ B 25 #[v0, v1, v2, x3, x4, x5, x6] := h1.s 2 v2
  have h3 : Bx _ B 25 #[v0, v1, v2, v3, x4, x5, x6] := h2.s 3 v3
  have h4 : Bx _ B 25 #[v0, v1, v2, v3, v4, x5, x6] := h3.s 4 v4
  have h5 : Bx _ B 25 #[v0, v1, v2, v3, v4, v5, x6] := h4.s 5 v5
  have h6 : Bx _ B 25 #[v0, v1, v2, v3, v4, v5, v6] := h5.s 6 v6
  exact ⟨h6, ((((((k.oth hB 0 v0).oth hB 1 v1).oth hB 2 v2).oth hB 3 v3).oth hB 4 v4).oth hB 5 v5).oth hB 6 v6⟩
theorem step_at (m w l p d o g k n a f x : Int) (W : World) : Calls Try.prog 25 #[.agg #[.int .i64 m, .int .i64 w, .int .i64 l, .int .i64 p, .int .i64 d, .int .i64 o, .int .i64 g], .agg #[.int .i64 k, .int .i64 n, .int .i64 a, .int .i64 f, .int .i64 x]] W fun e w' => ∃ (m' y' l' p' d' o' g' : Int) (b : Bool), e = .returned (.tuple #[.agg #[.int .i64 m', .int .i64 y', .int .i64 l', .int .i64 p', .int .i64 d', .int .i64 o', .int .i64 g'], .bool b]) ∧ W.grownBy w' none :=
  (rn_stepS m w l p d o g k n a f x W).mono fun _ _ ⟨h, hg⟩ => ⟨_, _, _, _, _, _, _, _, h, hg⟩

set_option maxRecDepth 100000 in
set_option maxHeartbeats 4000000 in
theorem reno_draw (r : Nat) (w : World) (h : RdOk w r) : Calls Try.prog 13 #[.pointer (some ⟨r, 0, none⟩)] w (RnPost w r) := by
  have hlt := h.lt
  have H := Lib.hid h
  clear h
  go_enter Try.func13, Try.ntmps13
  go_wp2_with fail
  refine (below_any _ _ _ (H.out.alloc _) (by omega)).mono ?_
  rintro e w1 ⟨v, v0, v1, rfl, hg, hr⟩
  rw [if_neg (by omega)] at v1
  have H1 := Lib.hid (And.intro (grownBy_trans (World.grownBy_alloc w (.cells #[.int .i64 0, .int .i64 0, .int .i64 0, .int .i64 0, .int .i64 0, .int .i64 0, .int .i64 0] 25) (some r)) hg) (And.intro hr ((Bx.new w 25 #[.int .i64 0, .int .i64 0, .int .i64 0, .int .i64 0, .int .i64 0, .int .i64 0, .int .i64 0]).kept hg (by simp; omega))))
  clear hg hr
  have s1 : IntKind.i64.wrap (1 + v) = 1 + v := IntWalk.i64_in _ (by omega)
  go_wp2_with fail
  refine (below_any _ _ _ H1.out.2.1 (by omega)).mono ?_
  rintro e w2 ⟨u, u0, u1, rfl, hg, hr⟩
  rw [if_neg (by omega)] at u1
  have H2 := Lib.hid (And.intro (grownBy_trans H1.out.1 hg) (And.intro hr (H1.out.2.2.kept hg (by simp; omega))))
  clear hg hr H1
  have s2 : IntKind.i64.wrap (1 + u) = 1 + u := IntWalk.i64_in _ (by omega)
  obtain ⟨m, y, l, p, d, o, g, b, hv⟩ := nw_form (1 + v) (1 + u)
  have hs := fun W => rn_newS (1 + v) (1 + u) W
  simp only [hv] at hs
  have HN := Lib.hid hs
  clear hs hv
  go_wp2_with fail
  refine (HN.out _).mono ?_
  rintro e w3 ⟨rfl, hg⟩
  have H3 := Lib.hid (And.intro (grownBy_trans H2.out.1 (gE hg)) (And.intro (H2.out.2.1.kept hg (by simp) (by simp)) (H2.out.2.2.keep hg)))
  clear hg H2
  have HS := Lib.hid (show Dst w r w.heap.size 25 #[.int .i64 0, .int .i64 0, .int .i64 0, .int .i64 0, .int .i64 0, .int .i64 0, .int .i64 0] w3.heap.size 25 #[.int .i64 m, .int .i64 y, .int .i64 l, .int .i64 p, .int .i64 d, .int .i64 o, .int .i64 g] (w3.alloc (.cells #[.int .i64 m, .int .i64 y, .int .i64 l, .int .i64 p, .int .i64 d, .int .i64 o, .int .i64 g] 25)) from ⟨hlt, Nat.le_refl _, H3.out.2.2.lt, grownBy_trans H3.out.1 (World.grownBy_alloc _ _ _), H3.out.2.1.alloc _, H3.out.2.2.alloc _, Bx.new _ _ _⟩)
  clear H3 H HN v0 v1 u0 u1 s1 s2
  go_wp2_with fail
  refine (below_any _ _ _ HS.out.rd (by omega)).mono ?_
  rintro e w4 ⟨q, q0, q1, rfl, hg, hr⟩
  obtain ⟨j, rfl⟩ := Int.eq_ofNat_of_zero_le q0
  have hj8 : j ≤ 8 := by have : (j : Int) ≤ 8 := (by simpa using q1); omega
  have HS := Lib.hid (HS.out.step hg hr)
  clear hg hr q0 q1
  generalize w3.heap.size = E at *
  have ne1 : ¬ E = w.heap.size := by have := HS.out.le; omega
  have ne2 : ¬ w.heap.size = E := by have := HS.out.le; omega
  go_wp2_with fail
  go_loopw [5] (fun i wr => ∃ (j : Nat) (m y l p d o g : Int), j ≤ 8 ∧ i = .int .i64 (j : Nat) ∧ Dst w r w.heap.size 25 #[.int .i64 0, .int .i64 0, .int .i64 0, .int .i64 0, .int .i64 0, .int .i64 0, .int .i64 0] E 25 #[.int .i64 m, .int .i64 y, .int .i64 l, .int .i64 p, .int .i64 d, .int .i64 o, .int .i64 g] wr) (fun i _ => (intOf i).toNat)
  case atStart => exact ⟨j, m, y, l, p, d, o, g, hj8, rfl, HS.out⟩
  case round =>
    clear HS hj8
    obtain ⟨j, m, y, l, p, d, o, g, hj8, rfl, hst⟩ := hrel
    have HS := Lib.hid hst
    clear hst
    by_cases h0 : j = 0
    · subst h0
      go_wp2_with fail
      refine (below_any _ _ _ HS.out.rd (by omega)).mono ?_
      rintro e w5 ⟨t, t0, t1, rfl, hg, hr⟩
      have HS := Lib.hid (HS.out.step hg hr)
      clear hg hr t0 t1
      have c0 : w5.cell? ⟨E, 0, none⟩ = some (.int .i64 m) := HS.out.b.c 0 rfl
      have c1 : w5.cell? ⟨E, 1, none⟩ = some (.int .i64 y) := HS.out.b.c 1 rfl
      have c2 : w5.cell? ⟨E, 2, none⟩ = some (.int .i64 l) := HS.out.b.c 2 rfl
      have c3 : w5.cell? ⟨E, 3, none⟩ = some (.int .i64 p) := HS.out.b.c 3 rfl
      have c4 : w5.cell? ⟨E, 4, none⟩ = some (.int .i64 d) := HS.out.b.c 4 rfl
      have c5 : w5.cell? ⟨E, 5, none⟩ = some (.int .i64 o) := HS.out.b.c 5 rfl
      have c6 : w5.cell? ⟨E, 6, none⟩ = some (.int .i64 g) := HS.out.b.c 6 rfl
      have cf0 : w5.frozen? ⟨E, 0, none⟩ = false := HS.out.b.f 0
      have cf1 : w5.frozen? ⟨E, 1, none⟩ = false := HS.out.b.f 1
      have cf2 : w5.frozen? ⟨E, 2, none⟩ = false := HS.out.b.f 2
      have cf3 : w5.frozen? ⟨E, 3, none⟩ = false := HS.out.b.f 3
      have cf4 : w5.frozen? ⟨E, 4, none⟩ = false := HS.out.b.f 4
      have cf5 : w5.frozen? ⟨E, 5, none⟩ = false := HS.out.b.f 5
      have cf6 : w5.frozen? ⟨E, 6, none⟩ = false := HS.out.b.f 6
      by_cases h22 : t = 22
      · subst h22
        go_wp2_with fail
        refine (off_w _ _ _ _ HS.out.rd (by omega) (wf_of (by omega) (by omega))).mono ?_
        rintro e w6 ⟨x, _, rfl, hg, hr⟩
        have HS := Lib.hid (HS.out.step hg hr)
        clear hg hr
        clear c0 cf0 c1 cf1 c2 cf2 c3 cf3 c4 cf4 c5 cf5 c6 cf6
        have c0 : w6.cell? ⟨E, 0, none⟩ = some (.int .i64 m) := HS.out.b.c 0 rfl
        have c1 : w6.cell? ⟨E, 1, none⟩ = some (.int .i64 y) := HS.out.b.c 1 rfl
        have c2 : w6.cell? ⟨E, 2, none⟩ = some (.int .i64 l) := HS.out.b.c 2 rfl
        have c3 : w6.cell? ⟨E, 3, none⟩ = some (.int .i64 p) := HS.out.b.c 3 rfl
        have c4 : w6.cell? ⟨E, 4, none⟩ = some (.int .i64 d) := HS.out.b.c 4 rfl
        have c5 : w6.cell? ⟨E, 5, none⟩ = some (.int .i64 o) := HS.out.b.c 5 rfl
        have c6 : w6.cell? ⟨E, 6, none⟩ = some (.int .i64 g) := HS.out.b.c 6 rfl
        have cf0 : w6.frozen? ⟨E, 0, none⟩ = false := HS.out.b.f 0
        have cf1 : w6.frozen? ⟨E, 1, none⟩ = false := HS.out.b.f 1
        have cf2 : w6.frozen? ⟨E, 2, none⟩ = false := HS.out.b.f 2
        have cf3 : w6.frozen? ⟨E, 3, none⟩ = false := HS.out.b.f 3
        have cf4 : w6.frozen? ⟨E, 4, none⟩ = false := HS.out.b.f 4
        have cf5 : w6.frozen? ⟨E, 5, none⟩ = false := HS.out.b.f 5
        have cf6 : w6.frozen? ⟨E, 6, none⟩ = false := HS.out.b.f 6
        have HS := Lib.hid (HS.out.s 1 (.int .i64 x))
        have z0 : (w6.setCell ⟨E, 1, none⟩ (.int .i64 x)).cell? ⟨w.heap.size, 0, none⟩ = some (.int .i64 0) := HS.out.a.c 0 rfl
        have z1 : (w6.setCell ⟨E, 1, none⟩ (.int .i64 x)).cell? ⟨w.heap.size, 1, none⟩ = some (.int .i64 0) := HS.out.a.c 1 rfl
        have z2 : (w6.setCell ⟨E, 1, none⟩ (.int .i64 x)).cell? ⟨w.heap.size, 2, none⟩ = some (.int .i64 0) := HS.out.a.c 2 rfl
        have z3 : (w6.setCell ⟨E, 1, none⟩ (.int .i64 x)).cell? ⟨w.heap.size, 3, none⟩ = some (.int .i64 0) := HS.out.a.c 3 rfl
        have z4 : (w6.setCell ⟨E, 1, none⟩ (.int .i64 x)).cell? ⟨w.heap.size, 4, none⟩ = some (.int .i64 0) := HS.out.a.c 4 rfl
        have z5 : (w6.setCell ⟨E, 1, none⟩ (.int .i64 x)).cell? ⟨w.heap.size, 5, none⟩ = some (.int .i64 0) := HS.out.a.c 5 rfl
        have z6 : (w6.setCell ⟨E, 1, none⟩ (.int .i64 x)).cell? ⟨w.heap.size, 6, none⟩ = some (.int .i64 0) := HS.out.a.c 6 rfl
        have x0 : (w6.setCell ⟨E, 1, none⟩ (.int .i64 x)).frozen? ⟨w.heap.size, 0, none⟩ = false := HS.out.a.f 0
        have x1 : (w6.setCell ⟨E, 1, none⟩ (.int .i64 x)).frozen? ⟨w.heap.size, 1, none⟩ = false := HS.out.a.f 1
        have x2 : (w6.setCell ⟨E, 1, none⟩ (.int .i64 x)).frozen? ⟨w.heap.size, 2, none⟩ = false := HS.out.a.f 2
        have x3 : (w6.setCell ⟨E, 1, none⟩ (.int .i64 x)).frozen? ⟨w.heap.size, 3, none⟩ = false := HS.out.a.f 3
        have x4 : (w6.setCell ⟨E, 1, none⟩ (.int .i64 x)).frozen? ⟨w.heap.size, 4, none⟩ = false := HS.out.a.f 4
        have x5 : (w6.setCell ⟨E, 1, none⟩ (.int .i64 x)).frozen? ⟨w.heap.size, 5, none⟩ = false := HS.out.a.f 5
        have x6 : (w6.setCell ⟨E, 1, none⟩ (.int .i64 x)).frozen? ⟨w.heap.size, 6, none⟩ = false := HS.out.a.f 6
        go_wp2_with fail
        exact bodyPost_ret (v := .agg #[.int .i64 m, .int .i64 x, .int .i64 l, .int .i64 p, .int .i64 d, .int .i64 o, .int .i64 g]) (by simp [results, Try.results13, go_sem, z0, z1, z2, z3, z4, z5, z6]) rfl ⟨m, x, l, p, d, o, g, rfl, HS.out.fin7 _ _ _ _ _ _ _⟩
      · by_cases h23 : t = 23
        · subst h23
          go_wp2_with fail
          refine (off_w _ _ _ _ HS.out.rd (by omega) (wf_of (by omega) (by omega))).mono ?_
          rintro e w6 ⟨x, _, rfl, hg, hr⟩
          have HS := Lib.hid (HS.out.step hg hr)
          clear hg hr
          clear c0 cf0 c1 cf1 c2 cf2 c3 cf3 c4 cf4 c5 cf5 c6 cf6
          have c0 : w6.cell? ⟨E, 0, none⟩ = some (.int .i64 m) := HS.out.b.c 0 rfl
          have c1 : w6.cell? ⟨E, 1, none⟩ = some (.int .i64 y) := HS.out.b.c 1 rfl
          have c2 : w6.cell? ⟨E, 2, none⟩ = some (.int .i64 l) := HS.out.b.c 2 rfl
          have c3 : w6.cell? ⟨E, 3, none⟩ = some (.int .i64 p) := HS.out.b.c 3 rfl
          have c4 : w6.cell? ⟨E, 4, none⟩ = some (.int .i64 d) := HS.out.b.c 4 rfl
          have c5 : w6.cell? ⟨E, 5, none⟩ = some (.int .i64 o) := HS.out.b.c 5 rfl
          have c6 : w6.cell? ⟨E, 6, none⟩ = some (.int .i64 g) := HS.out.b.c 6 rfl
          have cf0 : w6.frozen? ⟨E, 0, none⟩ = false := HS.out.b.f 0
          have cf1 : w6.frozen? ⟨E, 1, none⟩ = false := HS.out.b.f 1
          have cf2 : w6.frozen? ⟨E, 2, none⟩ = false := HS.out.b.f 2
          have cf3 : w6.frozen? ⟨E, 3, none⟩ = false := HS.out.b.f 3
          have cf4 : w6.frozen? ⟨E, 4, none⟩ = false := HS.out.b.f 4
          have cf5 : w6.frozen? ⟨E, 5, none⟩ = false := HS.out.b.f 5
          have cf6 : w6.frozen? ⟨E, 6, none⟩ = false := HS.out.b.f 6
          have HS := Lib.hid (HS.out.s 4 (.int .i64 x))
          have z0 : (w6.setCell ⟨E, 4, none⟩ (.int .i64 x)).cell? ⟨w.heap.size, 0, none⟩ = some (.int .i64 0) := HS.out.a.c 0 rfl
          have z1 : (w6.setCell ⟨E, 4, none⟩ (.int .i64 x)).cell? ⟨w.heap.size, 1, none⟩ = some (.int .i64 0) := HS.out.a.c 1 rfl
          have z2 : (w6.setCell ⟨E, 4, none⟩ (.int .i64 x)).cell? ⟨w.heap.size, 2, none⟩ = some (.int .i64 0) := HS.out.a.c 2 rfl
          have z3 : (w6.setCell ⟨E, 4, none⟩ (.int .i64 x)).cell? ⟨w.heap.size, 3, none⟩ = some (.int .i64 0) := HS.out.a.c 3 rfl
          have z4 : (w6.setCell ⟨E, 4, none⟩ (.int .i64 x)).cell? ⟨w.heap.size, 4, none⟩ = some (.int .i64 0) := HS.out.a.c 4 rfl
          have z5 : (w6.setCell ⟨E, 4, none⟩ (.int .i64 x)).cell? ⟨w.heap.size, 5, none⟩ = some (.int .i64 0) := HS.out.a.c 5 rfl
          have z6 : (w6.setCell ⟨E, 4, none⟩ (.int .i64 x)).cell? ⟨w.heap.size, 6, none⟩ = some (.int .i64 0) := HS.out.a.c 6 rfl
          have x0 : (w6.setCell ⟨E, 4, none⟩ (.int .i64 x)).frozen? ⟨w.heap.size, 0, none⟩ = false := HS.out.a.f 0
          have x1 : (w6.setCell ⟨E, 4, none⟩ (.int .i64 x)).frozen? ⟨w.heap.size, 1, none⟩ = false := HS.out.a.f 1
          have x2 : (w6.setCell ⟨E, 4, none⟩ (.int .i64 x)).frozen? ⟨w.heap.size, 2, none⟩ = false := HS.out.a.f 2
          have x3 : (w6.setCell ⟨E, 4, none⟩ (.int .i64 x)).frozen? ⟨w.heap.size, 3, none⟩ = false := HS.out.a.f 3
          have x4 : (w6.setCell ⟨E, 4, none⟩ (.int .i64 x)).frozen? ⟨w.heap.size, 4, none⟩ = false := HS.out.a.f 4
          have x5 : (w6.setCell ⟨E, 4, none⟩ (.int .i64 x)).frozen? ⟨w.heap.size, 5, none⟩ = false := HS.out.a.f 5
          have x6 : (w6.setCell ⟨E, 4, none⟩ (.int .i64 x)).frozen? ⟨w.heap.size, 6, none⟩ = false := HS.out.a.f 6
          go_wp2_with fail
          exact bodyPost_ret (v := .agg #[.int .i64 m, .int .i64 y, .int .i64 l, .int .i64 p, .int .i64 x, .int .i64 o, .int .i64 g]) (by simp [results, Try.results13, go_sem, z0, z1, z2, z3, z4, z5, z6]) rfl ⟨m, y, l, p, x, o, g, rfl, HS.out.fin7 _ _ _ _ _ _ _⟩
        · skip
          have z0 : w5.cell? ⟨w.heap.size, 0, none⟩ = some (.int .i64 0) := HS.out.a.c 0 rfl
          have z1 : w5.cell? ⟨w.heap.size, 1, none⟩ = some (.int .i64 0) := HS.out.a.c 1 rfl
          have z2 : w5.cell? ⟨w.heap.size, 2, none⟩ = some (.int .i64 0) := HS.out.a.c 2 rfl
          have z3 : w5.cell? ⟨w.heap.size, 3, none⟩ = some (.int .i64 0) := HS.out.a.c 3 rfl
          have z4 : w5.cell? ⟨w.heap.size, 4, none⟩ = some (.int .i64 0) := HS.out.a.c 4 rfl
          have z5 : w5.cell? ⟨w.heap.size, 5, none⟩ = some (.int .i64 0) := HS.out.a.c 5 rfl
          have z6 : w5.cell? ⟨w.heap.size, 6, none⟩ = some (.int .i64 0) := HS.out.a.c 6 rfl
          have x0 : w5.frozen? ⟨w.heap.size, 0, none⟩ = false := HS.out.a.f 0
          have x1 : w5.frozen? ⟨w.heap.size, 1, none⟩ = false := HS.out.a.f 1
          have x2 : w5.frozen? ⟨w.heap.size, 2, none⟩ = false := HS.out.a.f 2
          have x3 : w5.frozen? ⟨w.heap.size, 3, none⟩ = false := HS.out.a.f 3
          have x4 : w5.frozen? ⟨w.heap.size, 4, none⟩ = false := HS.out.a.f 4
          have x5 : w5.frozen? ⟨w.heap.size, 5, none⟩ = false := HS.out.a.f 5
          have x6 : w5.frozen? ⟨w.heap.size, 6, none⟩ = false := HS.out.a.f 6
          go_wp2_with fail
          exact bodyPost_ret (v := .agg #[.int .i64 m, .int .i64 y, .int .i64 l, .int .i64 p, .int .i64 d, .int .i64 o, .int .i64 g]) (by simp [results, Try.results13, go_sem, z0, z1, z2, z3, z4, z5, z6]) rfl ⟨m, y, l, p, d, o, g, rfl, HS.out.fin7 _ _ _ _ _ _ _⟩
    · obtain ⟨n, rfl⟩ : ∃ n, j = n + 1 := ⟨j - 1, by omega⟩
      clear h0
      have c0 := HS.out.b.c 0 (x := .int .i64 m) rfl
      have c1 := HS.out.b.c 1 (x := .int .i64 y) rfl
      have c2 := HS.out.b.c 2 (x := .int .i64 l) rfl
      have c3 := HS.out.b.c 3 (x := .int .i64 p) rfl
      have c4 := HS.out.b.c 4 (x := .int .i64 d) rfl
      have c5 := HS.out.b.c 5 (x := .int .i64 o) rfl
      have c6 := HS.out.b.c 6 (x := .int .i64 g) rfl
      have ltE := HS.out.b.lt
      go_upto_region 5 with fail
      go_cut [6, 7] (fun s6 s7 wx => ∃ (B : Nat) (b : Bool) (m' y' l' p' d' o' g' : Int), s6 = .pointer (some ⟨B, 0, none⟩) ∧ s7 = .bool b ∧ E < B ∧ Bx wx B 25 #[.int .i64 m', .int .i64 y', .int .i64 l', .int .i64 p', .int .i64 d', .int .i64 o', .int .i64 g'] ∧ Dst w r w.heap.size 25 #[.int .i64 0, .int .i64 0, .int .i64 0, .int .i64 0, .int .i64 0, .int .i64 0, .int .i64 0] E 25 #[.int .i64 m, .int .i64 y, .int .i64 l, .int .i64 p, .int .i64 d, .int .i64 o, .int .i64 g] wx)
      case first =>
        go_region_with (first | (go_at_call 15; refine (event_draw _ _ ?_).mono ?_; (first | exact HS.out.rd | exact HS.out.rd.alloc _); rintro e w5 ⟨k, n1, a, f, x, rfl, hg, hr⟩; have HS5 := Lib.hid (HS.out.step (by first | exact hg | exact grownBy_trans grownBy_drew hg | exact grownBy_trans (World.grownBy_alloc _ _ _) hg | exact grownBy_trans grownBy_drew (grownBy_trans (World.grownBy_alloc _ _ _) hg) | exact grownBy_trans (World.grownBy_alloc _ _ _) (grownBy_trans grownBy_drew hg)) hr); (first | have HB := Lib.hid ((Bx.new _ 25 #[.int .i64 0, .int .i64 0, .int .i64 0, .int .i64 0, .int .i64 0, .int .i64 0, .int .i64 0]).kept hg (by have := HS.out.rd.lt; simp; omega)) | have HB := Lib.hid (((Bx.new _ 25 #[.int .i64 0, .int .i64 0, .int .i64 0, .int .i64 0, .int .i64 0, .int .i64 0, .int .i64 0]).keep grownBy_drew).kept hg (by have := HS.out.rd.lt; simp; omega)) | skip); clear hg hr; have lt5 := HS5.out.b.lt; have e0 : w5.cell? ⟨E, 0, none⟩ = some (.int .i64 m) := HS5.out.b.c 0 rfl; have e1 : w5.cell? ⟨E, 1, none⟩ = some (.int .i64 y) := HS5.out.b.c 1 rfl; have e2 : w5.cell? ⟨E, 2, none⟩ = some (.int .i64 l) := HS5.out.b.c 2 rfl; have e3 : w5.cell? ⟨E, 3, none⟩ = some (.int .i64 p) := HS5.out.b.c 3 rfl; have e4 : w5.cell? ⟨E, 4, none⟩ = some (.int .i64 d) := HS5.out.b.c 4 rfl; have e5 : w5.cell? ⟨E, 5, none⟩ = some (.int .i64 o) := HS5.out.b.c 5 rfl; have e6 : w5.cell? ⟨E, 6, none⟩ = some (.int .i64 g) := HS5.out.b.c 6 rfl) | (go_at_call 25; refine (step_at _ _ _ _ _ _ _ _ _ _ _ _ _).mono ?_; rintro e w6 ⟨m', y', l', p', d', o', g', b, rfl, hg⟩; have HS6 := Lib.hid (HS5.out.own (by first | exact hg | exact grownBy_trans grownBy_drew hg | exact grownBy_trans (World.grownBy_alloc _ _ _) hg | exact grownBy_trans grownBy_drew (grownBy_trans (World.grownBy_alloc _ _ _) hg) | exact grownBy_trans (World.grownBy_alloc _ _ _) (grownBy_trans grownBy_drew hg))); (first | have HB2 := Lib.hid (HB.out.keep hg) | have HB2 := Lib.hid ((Bx.new _ 25 #[.int .i64 0, .int .i64 0, .int .i64 0, .int .i64 0, .int .i64 0, .int .i64 0, .int .i64 0]).keep hg) | skip); clear hg; try (have q0 := HB2.out.c 0 (x := .int .i64 0) rfl; have q1 := HB2.out.c 1 (x := .int .i64 0) rfl; have q2 := HB2.out.c 2 (x := .int .i64 0) rfl; have q3 := HB2.out.c 3 (x := .int .i64 0) rfl; have q4 := HB2.out.c 4 (x := .int .i64 0) rfl; have q5 := HB2.out.c 5 (x := .int .i64 0) rfl; have q6 := HB2.out.c 6 (x := .int .i64 0) rfl; have qf0 := HB2.out.f 0; have qf1 := HB2.out.f 1; have qf2 := HB2.out.f 2; have qf3 := HB2.out.f 3; have qf4 := HB2.out.f 4; have qf5 := HB2.out.f 5; have qf6 := HB2.out.f 6)))
        all_goals
          go_wp2_with fail
          go_meet
          first
            | exact ⟨_, _, _, _, _, _, _, _, _, rfl, rfl, HS6.out.b.lt, Bx.new _ _ _, HS6.out.own (World.grownBy_alloc _ _ _)⟩
            | exact ⟨_, _, _, _, _, _, _, _, _, rfl, rfl, ltE, (seven HS6.out HB2.out ltE _ _ _ _ _ _ _).1, (seven HS6.out HB2.out ltE _ _ _ _ _ _ _).2⟩
            | exact ⟨_, _, _, _, _, _, _, _, _, rfl, rfl, lt5, (seven HS6.out HB2.out lt5 _ _ _ _ _ _ _).1, (seven HS6.out HB2.out lt5 _ _ _ _ _ _ _).2⟩
      case rest =>
        obtain ⟨B, b, m', y', l', p', d', o', g', rfl, rfl, hB, hbx, hst⟩ := hcut
        clear HS ltE c0 c1 c2 c3 c4 c5 c6
        have HS := Lib.hid hst
        have HB := Lib.hid hbx
        clear hst hbx
        have c0 := HS.out.b.c 0 (x := .int .i64 m) rfl
        have c1 := HS.out.b.c 1 (x := .int .i64 y) rfl
        have c2 := HS.out.b.c 2 (x := .int .i64 l) rfl
        have c3 := HS.out.b.c 3 (x := .int .i64 p) rfl
        have c4 := HS.out.b.c 4 (x := .int .i64 d) rfl
        have c5 := HS.out.b.c 5 (x := .int .i64 o) rfl
        have c6 := HS.out.b.c 6 (x := .int .i64 g) rfl
        have cf0 := HS.out.b.f 0
        have cf1 := HS.out.b.f 1
        have cf2 := HS.out.b.f 2
        have cf3 := HS.out.b.f 3
        have cf4 := HS.out.b.f 4
        have cf5 := HS.out.b.f 5
        have cf6 := HS.out.b.f 6
        have e0 := HB.out.c 0 (x := .int .i64 m') rfl
        have e1 := HB.out.c 1 (x := .int .i64 y') rfl
        have e2 := HB.out.c 2 (x := .int .i64 l') rfl
        have e3 := HB.out.c 3 (x := .int .i64 p') rfl
        have e4 := HB.out.c 4 (x := .int .i64 d') rfl
        have e5 := HB.out.c 5 (x := .int .i64 o') rfl
        have e6 := HB.out.c 6 (x := .int .i64 g') rfl
        cases b
        · go_wp2_with fail
          go_roundw
          case rel => exact ⟨n, m, y, l, p, d, o, g, by omega, by go_num, HS.out⟩
          case measure => first | (simp [intOf]; done) | (simp [intOf]; omega)
        · have k0 : Dst w r w.heap.size 25 #[.int .i64 0, .int .i64 0, .int .i64 0, .int .i64 0, .int .i64 0, .int .i64 0, .int .i64 0] E 25 #[.int .i64 m', .int .i64 y, .int .i64 l, .int .i64 p, .int .i64 d, .int .i64 o, .int .i64 g] _ := HS.out.s 0 (.int .i64 m')
          have k1 : Dst w r w.heap.size 25 #[.int .i64 0, .int .i64 0, .int .i64 0, .int .i64 0, .int .i64 0, .int .i64 0, .int .i64 0] E 25 #[.int .i64 m', .int .i64 y', .int .i64 l, .int .i64 p, .int .i64 d, .int .i64 o, .int .i64 g] _ := k0.s 1 (.int .i64 y')
          have k2 : Dst w r w.heap.size 25 #[.int .i64 0, .int .i64 0, .int .i64 0, .int .i64 0, .int .i64 0, .int .i64 0, .int .i64 0] E 25 #[.int .i64 m', .int .i64 y', .int .i64 l', .int .i64 p, .int .i64 d, .int .i64 o, .int .i64 g] _ := k1.s 2 (.int .i64 l')
          have k3 : Dst w r w.heap.size 25 #[.int .i64 0, .int .i64 0, .int .i64 0, .int .i64 0, .int .i64 0, .int .i64 0, .int .i64 0] E 25 #[.int .i64 m', .int .i64 y', .int .i64 l', .int .i64 p', .int .i64 d, .int .i64 o, .int .i64 g] _ := k2.s 3 (.int .i64 p')
          have k4 : Dst w r w.heap.size 25 #[.int .i64 0, .int .i64 0, .int .i64 0, .int .i64 0, .int .i64 0, .int .i64 0, .int .i64 0] E 25 #[.int .i64 m', .int .i64 y', .int .i64 l', .int .i64 p', .int .i64 d', .int .i64 o, .int .i64 g] _ := k3.s 4 (.int .i64 d')
          have k5 : Dst w r w.heap.size 25 #[.int .i64 0, .int .i64 0, .int .i64 0, .int .i64 0, .int .i64 0, .int .i64 0, .int .i64 0] E 25 #[.int .i64 m', .int .i64 y', .int .i64 l', .int .i64 p', .int .i64 d', .int .i64 o', .int .i64 g] _ := k4.s 5 (.int .i64 o')
          have k6 : Dst w r w.heap.size 25 #[.int .i64 0, .int .i64 0, .int .i64 0, .int .i64 0, .int .i64 0, .int .i64 0, .int .i64 0] E 25 #[.int .i64 m', .int .i64 y', .int .i64 l', .int .i64 p', .int .i64 d', .int .i64 o', .int .i64 g'] _ := k5.s 6 (.int .i64 g')
          have HS7 := Lib.hid k6
          clear k0 k1 k2 k3 k4 k5 k6
          go_wp2_with fail
          go_roundw
          case rel => exact ⟨n, m', y', l', p', d', o', g', by omega, by go_num, HS7.out⟩
          case measure => first | (simp [intOf]; done) | (simp [intOf]; omega)

end Go.Proofs.Ytklbnpnngfoecaa
