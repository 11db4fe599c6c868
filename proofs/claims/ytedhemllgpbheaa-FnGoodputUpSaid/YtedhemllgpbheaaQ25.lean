/- Wq -/
import Derived.Test.YtedhemllgpbheaaQ24
namespace Go.Proofs.Ytedhemllgpbheaa
open Go.RowKit
open P7 (Pk PkAt pksV)

section
variable {w W W' : World} {B : Nat} {X : List Nat} {bs : List (Nat × TypeId × Array Value)} {sa : Option Addr} {sc : Nat} {sl : List Rg} {ga : Option Addr} {gc : Nat} {gl : List Pk} {da : Option Addr} {dc : Nat} {dl : List Rg} {ua : Option Addr} {uc : Nat} {ul : List Nt} {na : Option Addr} {nc : Nat} {nl : List Nt}
theorem dj_fresh {a b : Option Addr} {H : Nat} (ha : ∀ k, bkA a = some k → k < H) (hb : ∀ k, bkA b = some k → H ≤ k) : Dj a b := fun x h1 h2 => by have := ha x h1; have := hb x h2; omega
theorem LwAt.nil (w : World) (B : Nat) (X : List Nat) (hX : ∀ b ∈ X, b < w.heap.size) : LwAt w B X none 0 [] none 0 [] none 0 [] none 0 [] none 0 [] := by
  have st : StA w X none none none none := ⟨fun _ h => (by cases h), fun _ h => (by cases h), fun _ h => (by cases h), fun _ h => (by cases h), fun _ h => (by cases h)⟩
  exact ⟨.inl ⟨rfl, rfl, rfl⟩, .inl ⟨rfl, rfl, rfl⟩, World.ownsRow_nil _ _ _ _, World.ownsRow_nil _ _ _ _, World.ownsRow_nil _ _ _ _, by simp, by simp, st, st, fun _ h => (by cases h), fun _ h => (by cases h), fun _ h => (by cases h), fun _ h => (by cases h), fun _ h => (by cases h), fun _ h => (by cases h), hX⟩
theorem LwAt.base {B' : Nat} (h : LwAt W B X sa sc sl ga gc gl da dc dl ua uc ul na nc nl) (hB : B' ≤ B) : LwAt W B' X sa sc sl ga gc gl da dc dl ua uc ul na nc nl := { h with d := own_base h.d hB, u := own_base h.u hB, n := own_base h.n hB }
theorem Sw.newS {sa' : Option Addr} {sc' : Nat} {sl' : List Rg} (h : Sw w B X bs sa sc sl ga gc gl da dc dl ua uc ul na nc nl W) (hg : W.grownBy W' none) (ho : OwnRg W' W.heap.size sa' sc' sl') : Sw w B X bs sa' sc' sl' ga gc gl da dc dl ua uc ul na nc nl W' :=
  ⟨fun x hx => (h.b x hx).keep hg, (h.l.kept hg).setS (own_rowOk ho) (h.l.fresh fun b hb => own_lt ho b hb), h.k.kept hg, h.lo, h.nd, h.hB, h.hX⟩
theorem Sw.newG {ga' : Option Addr} {gc' : Nat} {gl' : List Pk} (h : Sw w B X bs sa sc sl ga gc gl da dc dl ua uc ul na nc nl W) (hg : W.grownBy W' none) (ho : W'.ownsRow W.heap.size 73 2 (.slice ga' gl'.length gc') gl'.length (pksV gl')) : Sw w B X bs sa sc sl ga' gc' gl' da dc dl ua uc ul na nc nl W' :=
  ⟨fun x hx => (h.b x hx).keep hg, (h.l.kept hg).setG (pkRow_own ho) (h.l.fresh fun b hb => own_lt ho b hb), h.k.kept hg, h.lo, h.nd, h.hB, h.hX⟩
theorem Sw.growD {da' : Option Addr} {dc' : Nat} {dl' : List Rg} (h : Sw w B X bs sa sc sl ga gc gl da dc dl ua uc ul na nc nl W) (hr : W'.ownsRow B 44 2 (.slice da' dl'.length dc') dl'.length (rgsV dl')) (hg : W.grownBy W' (Value.ownBlock (.slice da dl.length dc))) (hat : Value.ownBlock (.slice da' dl'.length dc') = Value.ownBlock (.slice da dl.length dc) ∨ Value.ownBlock (.slice da' dl'.length dc') = some W.heap.size) : Sw w B X bs sa sc sl ga gc gl da' dc' dl' ua uc ul na nc nl W' := by
  simp only [own_bk] at hg hat
  have hl := own_lt h.l.d
  exact ⟨bx_row h hg h.l.dx, h.l.growD hr hg hat, h.k.row hg fun b hb => ⟨(hl b hb).1, mem_off (h.l.dx b hb)⟩, h.lo, h.nd, h.hB, h.hX⟩
theorem Sw.growU {ua' : Option Addr} {uc' : Nat} {ul' : List Nt} (h : Sw w B X bs sa sc sl ga gc gl da dc dl ua uc ul na nc nl W) (hr : W'.ownsRow B 33 4 (.slice ua' ul'.length uc') ul'.length (ntsV ul')) (hg : W.grownBy W' (Value.ownBlock (.slice ua ul.length uc))) (hat : Value.ownBlock (.slice ua' ul'.length uc') = Value.ownBlock (.slice ua ul.length uc) ∨ Value.ownBlock (.slice ua' ul'.length uc') = some W.heap.size) (hm : ∀ x ∈ ul', StN W (bs.map (·.1) ++ X) da ua na x) : Sw w B X bs sa sc sl ga gc gl da dc dl ua' uc' ul' na nc nl W' := by
  simp only [own_bk] at hg hat
  have hl := own_lt h.l.u
  exact ⟨bx_row h hg h.l.ux, h.l.growU hr hg hat hm, h.k.row hg fun b hb => ⟨(hl b hb).1, mem_off (h.l.ux b hb)⟩, h.lo, h.nd, h.hB, h.hX⟩
/-- An empty row of what goes down. -/
theorem Sw.emptyD (h : Sw w B X bs sa sc sl ga gc gl da dc dl ua uc ul na nc nl W) (hg : W.grownBy W' none) {q : Nat} (hq : W.heap.size ≤ q) (hb : W'.heap[q]? = some (.cells #[] 44 (0, 0))) : Sw w B X bs sa sc sl ga gc gl (some ⟨q, 0, none⟩) 0 [] ua uc ul na nc nl W' := by
  have hlt : q < W'.heap.size := (Array.getElem?_eq_some_iff.1 hb).1
  have hr : W'.ownsRow B 44 2 (.slice (some ⟨q, 0, none⟩) ([] : List Rg).length 0) ([] : List Rg).length (rgsV []) := ⟨by simp [rgsV], .inr ⟨q, 0, #[], rfl, Nat.le_trans (Nat.le_trans h.hB h.k.size) hq, hb, Nat.le_refl _, by unfold maxLen; omega, by simp, by simp [rgsV]⟩⟩
  have k := h.l.kept hg
  have fd : ∀ a, (∀ x, bkA a = some x → x < W.heap.size) → Dj (some ⟨q, 0, none⟩) a := fun a ha => (dj_fresh ha (by intro k hk; cases hk; exact hq)).symm
  have st : ∀ a, StA W (bs.map (·.1) ++ X) da ua na a → StA W' (bs.map (·.1) ++ X) (some ⟨q, 0, none⟩) ua na a := fun a s => ⟨(s.of hg.size).lt, s.x, fd a s.lt, s.u, s.n⟩
  exact ⟨fun x hx => (h.b x hx).keep hg, ⟨k.s, k.g, hr, k.u, k.n, fun x hx => ⟨(k.us x hx).1, st _ (h.l.us x hx).2⟩, fun x hx => ⟨(k.ns x hx).1, st _ (h.l.ns x hx).2⟩, st _ h.l.ss, st _ h.l.gs, fd _ fun x hx => (own_lt h.l.u x hx).2, fd _ fun x hx => (own_lt h.l.n x hx).2, h.l.un, fun b hb hx => by cases hb; have := h.l.xl _ hx; dsimp only at this; omega, h.l.ux, h.l.nx, k.xl⟩, h.k.kept hg, h.lo, h.nd, h.hB, h.hX⟩
/-- An empty row of what comes up. -/
theorem Sw.emptyU (h : Sw w B X bs sa sc sl ga gc gl da dc dl ua uc ul na nc nl W) (hg : W.grownBy W' none) {q : Nat} (hq : W.heap.size ≤ q) (hb : W'.heap[q]? = some (.cells #[] 33 (0, 0))) : Sw w B X bs sa sc sl ga gc gl da dc dl (some ⟨q, 0, none⟩) 0 [] na nc nl W' := by
  have hlt : q < W'.heap.size := (Array.getElem?_eq_some_iff.1 hb).1
  have hr : W'.ownsRow B 33 4 (.slice (some ⟨q, 0, none⟩) ([] : List Nt).length 0) ([] : List Nt).length (ntsV []) := ⟨by simp [ntsV], .inr ⟨q, 0, #[], rfl, Nat.le_trans (Nat.le_trans h.hB h.k.size) hq, hb, Nat.le_refl _, by unfold maxLen; omega, by simp, by simp [ntsV]⟩⟩
  have k := h.l.kept hg
  have fd : ∀ a, (∀ x, bkA a = some x → x < W.heap.size) → Dj (some ⟨q, 0, none⟩) a := fun a ha => (dj_fresh ha (by intro k hk; cases hk; exact hq)).symm
  have st : ∀ a, StA W (bs.map (·.1) ++ X) da ua na a → StA W' (bs.map (·.1) ++ X) da (some ⟨q, 0, none⟩) na a := fun a s => ⟨(s.of hg.size).lt, s.x, s.d, fd a s.lt, s.n⟩
  exact ⟨fun x hx => (h.b x hx).keep hg, ⟨k.s, k.g, k.d, hr, k.n, by simp, fun x hx => ⟨(k.ns x hx).1, st _ (h.l.ns x hx).2⟩, st _ h.l.ss, st _ h.l.gs, (fd _ fun x hx => (own_lt h.l.d x hx).2).symm, h.l.dn, fd _ fun x hx => (own_lt h.l.n x hx).2, h.l.dx, fun b hb hx => by cases hb; have := h.l.xl _ hx; dsimp only at this; omega, h.l.nx, k.xl⟩, h.k.kept hg, h.lo, h.nd, h.hB, h.hX⟩
/-- A copy of notes becomes what comes up, or what was seen. -/
theorem Sw.newU {b : Option Addr} {cc : Nat} {us : List Nt} (h : Sw w B X bs sa sc sl ga gc gl da dc dl ua uc ul na nc nl W) (c : CpAt W W' b cc us) : Sw w B X bs sa sc sl ga gc gl da dc dl b cc us na nc nl W' := by
  have k := h.l.kept c.g
  have hl := own_lt c.row
  have fd : ∀ a, (∀ x, bkA a = some x → x < W.heap.size) → Dj b a := fun a ha => (dj_fresh ha fun k hk => (hl k hk).1).symm
  have st : ∀ a, StA W (bs.map (·.1) ++ X) da ua na a → StA W' (bs.map (·.1) ++ X) da b na a := fun a s => ⟨(s.of c.g.size).lt, s.x, s.d, fd a s.lt, s.n⟩
  exact ⟨fun x hx => (h.b x hx).keep c.g, ⟨k.s, k.g, k.d, own_base c.row (Nat.le_trans h.hB h.k.size), k.n, fun x hx => ⟨(c.sub x hx).1, { h.l.fresh (c.sub x hx).2.1 with u := (c.sub x hx).2.2 }⟩, fun x hx => ⟨(k.ns x hx).1, st _ (h.l.ns x hx).2⟩, st _ h.l.ss, st _ h.l.gs, (fd _ fun x hx => (own_lt h.l.d x hx).2).symm, h.l.dn, fd _ fun x hx => (own_lt h.l.n x hx).2, h.l.dx, fun q hq hx => by have := (hl q hq).1; have := h.l.xl _ hx; omega, h.l.nx, k.xl⟩, h.k.kept c.g, h.lo, h.nd, h.hB, h.hX⟩
theorem Sw.newN {b : Option Addr} {cc : Nat} {us : List Nt} (h : Sw w B X bs sa sc sl ga gc gl da dc dl ua uc ul na nc nl W) (c : CpAt W W' b cc us) : Sw w B X bs sa sc sl ga gc gl da dc dl ua uc ul b cc us W' := by
  have k := h.l.kept c.g
  have hl := own_lt c.row
  have fd : ∀ a, (∀ x, bkA a = some x → x < W.heap.size) → Dj b a := fun a ha => (dj_fresh ha fun k hk => (hl k hk).1).symm
  have st : ∀ a, StA W (bs.map (·.1) ++ X) da ua na a → StA W' (bs.map (·.1) ++ X) da ua b a := fun a s => ⟨(s.of c.g.size).lt, s.x, s.d, s.u, fd a s.lt⟩
  exact ⟨fun x hx => (h.b x hx).keep c.g, ⟨k.s, k.g, k.d, k.u, own_base c.row (Nat.le_trans h.hB h.k.size), fun x hx => ⟨(k.us x hx).1, st _ (h.l.us x hx).2⟩, fun x hx => ⟨(c.sub x hx).1, { h.l.fresh (c.sub x hx).2.1 with n := (c.sub x hx).2.2 }⟩, st _ h.l.ss, st _ h.l.gs, h.l.du, (fd _ fun x hx => (own_lt h.l.d x hx).2).symm, (fd _ fun x hx => (own_lt h.l.u x hx).2).symm, h.l.dx, h.l.ux, fun q hq hx => by have := (hl q hq).1; have := h.l.xl _ hx; omega, k.xl⟩, h.k.kept c.g, h.lo, h.nd, h.hB, h.hX⟩
/-- A box becomes the row of what is known. -/
theorem Sw.boxG {q : Nat} {T : TypeId} {ys : Array Value} {ga' : Option Addr} {gc' : Nat} {gl' : List Pk} {B0 : Nat} (h : Sw w B X ((q, T, ys) :: bs) sa sc sl ga gc gl da dc dl ua uc ul na nc nl W) (hr : W'.ownsRow B0 73 2 (.slice ga' gl'.length gc') gl'.length (pksV gl')) (hg : W.grownBy W' (some q)) (hat : Value.ownBlock (.slice ga' gl'.length gc') = some q ∨ Value.ownBlock (.slice ga' gl'.length gc') = some W.heap.size) : Sw w B X bs sa sc sl ga' gc' gl' da dc dl ua uc ul na nc nl W' := by
  rw [own_bk] at hat
  have hlt : q < W.heap.size := (h.b (q, T, ys) (by simp)).lt
  have hqn : q ∉ bs.map (·.1) := by have := h.nd; simp only [List.map_cons, List.nodup_cons] at this; exact this.1
  have k1 : LwAt W' B (q :: (bs.map (·.1) ++ X)) sa sc sl ga gc gl da dc dl ua uc ul na nc nl := h.l.of hg.size fun k hk hx => hg.block k hk fun e => hx (by cases e; simp)
  have hqx : q ∉ X := fun hx => by
    have h1 := h.lo (q, T, ys) (by simp)
    have h2 := h.k.size
    have h3 := h.hX
    exact absurd (h3 q hx) (by dsimp only at h1; omega)
  have lo := own_lt hr
  have stq : StA W' (bs.map (·.1) ++ X) da ua na ga' := by
    refine ⟨fun b hb => (lo b hb).2, fun b hb hx => ?_, fun b hb e => ?_, fun b hb e => ?_, fun b hb e => ?_⟩
    all_goals rcases hat with e2 | e2
    · rw [e2] at hb; cases hb
      rcases List.mem_append.mp hx with hx | hx
      · exact hqn hx
      · exact hqx hx
    · rw [e2] at hb; cases hb
      have := h.l.xl _ (List.mem_cons_of_mem _ hx)
      omega
    · rw [e2] at e; cases e; exact h.l.dx q hb (by simp)
    · rw [e2] at e; cases e; have := (own_lt h.l.d _ hb).2; omega
    · rw [e2] at e; cases e; exact h.l.ux q hb (by simp)
    · rw [e2] at e; cases e; have := (own_lt h.l.u _ hb).2; omega
    · rw [e2] at e; cases e; exact h.l.nx q hb (by simp)
    · rw [e2] at e; cases e; have := (own_lt h.l.n _ hb).2; omega
  exact ⟨fun x hx => (h.b x (List.mem_cons_of_mem _ hx)).kept hg (fun e => hqn (by cases e; exact List.mem_map.mpr ⟨x, hx, rfl⟩)), (LwAt.drop k1).setG (pkRow_own hr) stq, h.k.row hg fun b hb => (by cases hb; exact ⟨by have := h.lo (q, T, ys) (by simp); have := h.hB; dsimp only at *; omega, hqx⟩), fun x hx => h.lo x (List.mem_cons_of_mem _ hx), (List.nodup_cons.mp h.nd).2, h.hB, h.hX⟩
theorem Sw.all0 {C : Nat} {T : TypeId} {x0 x1 x2 x3 x4 x5 x6 x7 x8 x9 x10 x11 x12 x13 x14 : Value} (h : Sw w B X ((C, T, #[x0, x1, x2, x3, x4, x5, x6, x7, x8, x9, x10, x11, x12, x13, x14]) :: bs) sa sc sl ga gc gl da dc dl ua uc ul na nc nl W) (v0 v1 v2 v3 v4 v5 v6 v7 v8 v9 v10 v11 v12 v13 v14 : Value) : Sw w B X ((C, T, #[v0, v1, v2, v3, v4, v5, v6, v7, v8, v9, v10, v11, v12, v13, v14]) :: bs) sa sc sl ga gc gl da dc dl ua uc ul na nc nl (((((((((((((((W.setCell ⟨C, 0, none⟩ (v0)).setCell ⟨C, 1, none⟩ (v1)).setCell ⟨C, 2, none⟩ (v2)).setCell ⟨C, 3, none⟩ (v3)).setCell ⟨C, 4, none⟩ (v4)).setCell ⟨C, 5, none⟩ (v5)).setCell ⟨C, 6, none⟩ (v6)).setCell ⟨C, 7, none⟩ (v7)).setCell ⟨C, 8, none⟩ (v8)).setCell ⟨C, 9, none⟩ (v9)).setCell ⟨C, 10, none⟩ (v10)).setCell ⟨C, 11, none⟩ (v11)).setCell ⟨C, 12, none⟩ (v12)).setCell ⟨C, 13, none⟩ (v13)).setCell ⟨C, 14, none⟩ (v14)) := by
  have k0 : Sw w B X ((C, T, #[v0, x1, x2, x3, x4, x5, x6, x7, x8, x9, x10, x11, x12, x13, x14]) :: bs) sa sc sl ga gc gl da dc dl ua uc ul na nc nl (W.setCell ⟨C, 0, none⟩ (v0)) := Sw.put [] h 0 v0 rfl
  have k1 : Sw w B X ((C, T, #[v0, v1, x2, x3, x4, x5, x6, x7, x8, x9, x10, x11, x12, x13, x14]) :: bs) sa sc sl ga gc gl da dc dl ua uc ul na nc nl ((W.setCell ⟨C, 0, none⟩ (v0)).setCell ⟨C, 1, none⟩ (v1)) := Sw.put [] k0 1 v1 rfl
  have k2 : Sw w B X ((C, T, #[v0, v1, v2, x3, x4, x5, x6, x7, x8, x9, x10, x11, x12, x13, x14]) :: bs) sa sc sl ga gc gl da dc dl ua uc ul na nc nl (((W.setCell ⟨C, 0, none⟩ (v0)).setCell ⟨C, 1, none⟩ (v1)).setCell ⟨C, 2, none⟩ (v2)) := Sw.put [] k1 2 v2 rfl
  have k3 : Sw w B X ((C, T, #[v0, v1, v2, v3, x4, x5, x6, x7, x8, x9, x10, x11, x12, x13, x14]) :: bs) sa sc sl ga gc gl da dc dl ua uc ul na nc nl ((((W.setCell ⟨C, 0, none⟩ (v0)).setCell ⟨C, 1, none⟩ (v1)).setCell ⟨C, 2, none⟩ (v2)).setCell ⟨C, 3, none⟩ (v3)) := Sw.put [] k2 3 v3 rfl
  have k4 : Sw w B X ((C, T, #[v0, v1, v2, v3, v4, x5, x6, x7, x8, x9, x10, x11, x12, x13, x14]) :: bs) sa sc sl ga gc gl da dc dl ua uc ul na nc nl (((((W.setCell ⟨C, 0, none⟩ (v0)).setCell ⟨C, 1, none⟩ (v1)).setCell ⟨C, 2, none⟩ (v2)).setCell ⟨C, 3, none⟩ (v3)).setCell ⟨C, 4, none⟩ (v4)) := Sw.put [] k3 4 v4 rfl
  have k5 : Sw w B X ((C, T, #[v0, v1, v2, v3, v4, v5, x6, x7, x8, x9, x10, x11, x12, x13, x14]) :: bs) sa sc sl ga gc gl da dc dl ua uc ul na nc nl ((((((W.setCell ⟨C, 0, none⟩ (v0)).setCell ⟨C, 1, none⟩ (v1)).setCell ⟨C, 2, none⟩ (v2)).setCell ⟨C, 3, none⟩ (v3)).setCell ⟨C, 4, none⟩ (v4)).setCell ⟨C, 5, none⟩ (v5)) := Sw.put [] k4 5 v5 rfl
  have k6 : Sw w B X ((C, T, #[v0, v1, v2, v3, v4, v5, v6, x7, x8, x9, x10, x11, x12, x13, x14]) :: bs) sa sc sl ga gc gl da dc dl ua uc ul na nc nl (((((((W.setCell ⟨C, 0, none⟩ (v0)).setCell ⟨C, 1, none⟩ (v1)).setCell ⟨C, 2, none⟩ (v2)).setCell ⟨C, 3, none⟩ (v3)).setCell ⟨C, 4, none⟩ (v4)).setCell ⟨C, 5, none⟩ (v5)).setCell ⟨C, 6, none⟩ (v6)) := Sw.put [] k5 6 v6 rfl
  have k7 : Sw w B X ((C, T, #[v0, v1, v2, v3, v4, v5, v6, v7, x8, x9, x10, x11, x12, x13, x14]) :: bs) sa sc sl ga gc gl da dc dl ua uc ul na nc nl ((((((((W.setCell ⟨C, 0, none⟩ (v0)).setCell ⟨C, 1, none⟩ (v1)).setCell ⟨C, 2, none⟩ (v2)).setCell ⟨C, 3, none⟩ (v3)).setCell ⟨C, 4, none⟩ (v4)).setCell ⟨C, 5, none⟩ (v5)).setCell ⟨C, 6, none⟩ (v6)).setCell ⟨C, 7, none⟩ (v7)) := Sw.put [] k6 7 v7 rfl
  have k8 : Sw w B X ((C, T, #[v0, v1, v2, v3, v4, v5, v6, v7, v8, x9, x10, x11, x12, x13, x14]) :: bs) sa sc sl ga gc gl da dc dl ua uc ul na nc nl (((((((((W.setCell ⟨C, 0, none⟩ (v0)).setCell ⟨C, 1, none⟩ (v1)).setCell ⟨C, 2, none⟩ (v2)).setCell ⟨C, 3, none⟩ (v3)).setCell ⟨C, 4, none⟩ (v4)).setCell ⟨C, 5, none⟩ (v5)).setCell ⟨C, 6, none⟩ (v6)).setCell ⟨C, 7, none⟩ (v7)).setCell ⟨C, 8, none⟩ (v8)) := Sw.put [] k7 8 v8 rfl
  have k9 : Sw w B X ((C, T, #[v0, v1, v2, v3, v4, v5, v6, v7, v8, v9, x10, x11, x12, x13, x14]) :: bs) sa sc sl ga gc gl da dc dl ua uc ul na nc nl ((((((((((W.setCell ⟨C, 0, none⟩ (v0)).setCell ⟨C, 1, none⟩ (v1)).setCell ⟨C, 2, none⟩ (v2)).setCell ⟨C, 3, none⟩ (v3)).setCell ⟨C, 4, none⟩ (v4)).setCell ⟨C, 5, none⟩ (v5)).setCell ⟨C, 6, none⟩ (v6)).setCell ⟨C, 7, none⟩ (v7)).setCell ⟨C, 8, none⟩ (v8)).setCell ⟨C, 9, none⟩ (v9)) := Sw.put [] k8 9 v9 rfl
  have k10 : Sw w B X ((C, T, #[v0, v1, v2, v3, v4, v5, v6, v7, v8, v9, v10, x11, x12, x13, x14]) :: bs) sa sc sl ga gc gl da dc dl ua uc ul na nc nl (((((((((((W.setCell ⟨C, 0, none⟩ (v0)).setCell ⟨C, 1, none⟩ (v1)).setCell ⟨C, 2, none⟩ (v2)).setCell ⟨C, 3, none⟩ (v3)).setCell ⟨C, 4, none⟩ (v4)).setCell ⟨C, 5, none⟩ (v5)).setCell ⟨C, 6, none⟩ (v6)).setCell ⟨C, 7, none⟩ (v7)).setCell ⟨C, 8, none⟩ (v8)).setCell ⟨C, 9, none⟩ (v9)).setCell ⟨C, 10, none⟩ (v10)) := Sw.put [] k9 10 v10 rfl
  have k11 : Sw w B X ((C, T, #[v0, v1, v2, v3, v4, v5, v6, v7, v8, v9, v10, v11, x12, x13, x14]) :: bs) sa sc sl ga gc gl da dc dl ua uc ul na nc nl ((((((((((((W.setCell ⟨C, 0, none⟩ (v0)).setCell ⟨C, 1, none⟩ (v1)).setCell ⟨C, 2, none⟩ (v2)).setCell ⟨C, 3, none⟩ (v3)).setCell ⟨C, 4, none⟩ (v4)).setCell ⟨C, 5, none⟩ (v5)).setCell ⟨C, 6, none⟩ (v6)).setCell ⟨C, 7, none⟩ (v7)).setCell ⟨C, 8, none⟩ (v8)).setCell ⟨C, 9, none⟩ (v9)).setCell ⟨C, 10, none⟩ (v10)).setCell ⟨C, 11, none⟩ (v11)) := Sw.put [] k10 11 v11 rfl
  have k12 : Sw w B X ((C, T, #[v0, v1, v2, v3, v4, v5, v6, v7, v8, v9, v10, v11, v12, x13, x14]) :: bs) sa sc sl ga gc gl da dc dl ua uc ul na nc nl (((((((((((((W.setCell ⟨C, 0, none⟩ (v0)).setCell ⟨C, 1, none⟩ (v1)).setCell ⟨C, 2, none⟩ (v2)).setCell ⟨C, 3, none⟩ (v3)).setCell ⟨C, 4, none⟩ (v4)).setCell ⟨C, 5, none⟩ (v5)).setCell ⟨C, 6, none⟩ (v6)).setCell ⟨C, 7, none⟩ (v7)).setCell ⟨C, 8, none⟩ (v8)).setCell ⟨C, 9, none⟩ (v9)).setCell ⟨C, 10, none⟩ (v10)).setCell ⟨C, 11, none⟩ (v11)).setCell ⟨C, 12, none⟩ (v12)) := Sw.put [] k11 12 v12 rfl
  have k13 : Sw w B X ((C, T, #[v0, v1, v2, v3, v4, v5, v6, v7, v8, v9, v10, v11, v12, v13, x14]) :: bs) sa sc sl ga gc gl da dc dl ua uc ul na nc nl ((((((((((((((W.setCell ⟨C, 0, none⟩ (v0)).setCell ⟨C, 1, none⟩ (v1)).setCell ⟨C, 2, none⟩ (v2)).setCell ⟨C, 3, none⟩ (v3)).setCell ⟨C, 4, none⟩ (v4)).setCell ⟨C, 5, none⟩ (v5)).setCell ⟨C, 6, none⟩ (v6)).setCell ⟨C, 7, none⟩ (v7)).setCell ⟨C, 8, none⟩ (v8)).setCell ⟨C, 9, none⟩ (v9)).setCell ⟨C, 10, none⟩ (v10)).setCell ⟨C, 11, none⟩ (v11)).setCell ⟨C, 12, none⟩ (v12)).setCell ⟨C, 13, none⟩ (v13)) := Sw.put [] k12 13 v13 rfl
  have k14 : Sw w B X ((C, T, #[v0, v1, v2, v3, v4, v5, v6, v7, v8, v9, v10, v11, v12, v13, v14]) :: bs) sa sc sl ga gc gl da dc dl ua uc ul na nc nl (((((((((((((((W.setCell ⟨C, 0, none⟩ (v0)).setCell ⟨C, 1, none⟩ (v1)).setCell ⟨C, 2, none⟩ (v2)).setCell ⟨C, 3, none⟩ (v3)).setCell ⟨C, 4, none⟩ (v4)).setCell ⟨C, 5, none⟩ (v5)).setCell ⟨C, 6, none⟩ (v6)).setCell ⟨C, 7, none⟩ (v7)).setCell ⟨C, 8, none⟩ (v8)).setCell ⟨C, 9, none⟩ (v9)).setCell ⟨C, 10, none⟩ (v10)).setCell ⟨C, 11, none⟩ (v11)).setCell ⟨C, 12, none⟩ (v12)).setCell ⟨C, 13, none⟩ (v13)).setCell ⟨C, 14, none⟩ (v14)) := Sw.put [] k13 14 v14 rfl
  exact k14
end
theorem row_bx {W : World} {q B : Nat} {T : TypeId} (s : Nat) (h : Bx W q T #[]) (hB : B ≤ q) : W.ownsRow B T s (.slice (some ⟨q, 0, none⟩) 0 0) 0 [] :=
  ⟨by simp, .inr ⟨q, 0, #[], rfl, hB, h, Nat.le_refl _, by unfold maxLen; omega, by simp, by simp⟩⟩
def WcPost (w : World) (X : List Nat) (t m y z p d o g u n : Int) (sl : List Rg) (gl : List Pk) (dl : List Rg) (ul nl : List Nt) (e : Ending) (w' : World) : Prop :=
  ∃ (sa2 : Option Addr) (sc2 : Nat) (ga2 : Option Addr) (gc2 : Nat) (da2 : Option Addr) (dc2 : Nat) (ua2 : Option Addr) (uc2 : Nat) (us : List Nt) (na2 : Option Addr) (nc2 : Nat) (ns : List Nt), e = .returned (.agg #[.int .i64 t, .int .i64 m, .int .i64 y, .int .i64 z, .int .i64 p, .int .i64 d, .int .i64 o, .int .i64 g, .int .i64 u, .int .i64 n, .slice sa2 sl.length sc2, .slice ga2 gl.length gc2, .slice da2 dl.length dc2, .slice ua2 us.length uc2, .slice na2 ns.length nc2]) ∧ LwAt w' w.heap.size X sa2 sc2 sl ga2 gc2 gl da2 dc2 dl ua2 uc2 us na2 nc2 ns ∧ w.grownBy w' none ∧ us.map Nt.o = ul.map Nt.o ∧ ns.map Nt.o = nl.map Nt.o

end Go.Proofs.Ytedhemllgpbheaa

