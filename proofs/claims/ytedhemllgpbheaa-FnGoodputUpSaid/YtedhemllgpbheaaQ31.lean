/- Wy -/
import Derived.Test.YtedhemllgpbheaaQ29
import Derived.Test.YtedhemllgpbheaaQ30
namespace Go.Proofs.Ytedhemllgpbheaa
open Go.RowKit
open P7 (Pk PkAt pksV)

section
variable {w W W' : World} {B : Nat} {X : List Nat} {bs : List (Nat × TypeId × Array Value)} {sa : Option Addr} {sc : Nat} {sl : List Rg} {ga : Option Addr} {gc : Nat} {gl : List Pk} {da : Option Addr} {dc : Nat} {dl : List Rg} {ua : Option Addr} {uc : Nat} {ul : List Nt} {na : Option Addr} {nc : Nat} {nl : List Nt}
theorem Sw.drop0 {b0 : Nat × TypeId × Array Value} (h : Sw w B X (b0 :: bs) sa sc sl ga gc gl da dc dl ua uc ul na nc nl W) : Sw w B X bs sa sc sl ga gc gl da dc dl ua uc ul na nc nl W :=
  ⟨fun x hx => h.b x (List.mem_cons_of_mem _ hx), LwAt.drop h.l, h.k, fun x hx => h.lo x (List.mem_cons_of_mem _ hx), (List.nodup_cons.mp h.nd).2, h.hB, h.hX⟩
theorem Sw.off0 {q : Nat} {T : TypeId} {ys : Array Value} (h : Sw w B X ((q, T, ys) :: bs) sa sc sl ga gc gl da dc dl ua uc ul na nc nl W) : q ∉ bs.map (·.1) ++ X := fun hx => by
  have hn := h.nd
  simp only [List.map_cons, List.nodup_cons] at hn
  rcases List.mem_append.mp hx with hx | hx
  · exact hn.1 hx
  · have h1 := h.lo (q, T, ys) (by simp)
    have h2 := h.hX q hx
    dsimp only at h1
    omega
/-- A new block that is as it is. -/
theorem Sw.boxN {q : Nat} {T : TypeId} {ys : Array Value} (h : Sw w B X bs sa sc sl ga gc gl da dc dl ua uc ul na nc nl W) (hg : W.grownBy W' none) (hq : q = W.heap.size) (hb : Bx W' q T ys) : Sw w B X ((q, T, ys) :: bs) sa sc sl ga gc gl da dc dl ua uc ul na nc nl W' := by
  subst hq
  have k := h.l.kept hg
  have f : ∀ a, OffX (bs.map (·.1) ++ X) a → (∀ b, bkA a = some b → b < W.heap.size) → OffX (W.heap.size :: (bs.map (·.1) ++ X)) a := fun a o l b hb hx => by
    rcases List.mem_cons.mp hx with rfl | hx
    · exact absurd (l _ hb) (Nat.lt_irrefl _)
    · exact o b hb hx
  have st : ∀ a, StA W (bs.map (·.1) ++ X) da ua na a → StA W' (W.heap.size :: (bs.map (·.1) ++ X)) da ua na a := fun a o => ⟨(o.of hg.size).lt, f _ o.x o.lt, o.d, o.u, o.n⟩
  refine ⟨fun x hx => ?_, ⟨k.s, k.g, k.d, k.u, k.n, fun x hx => ⟨(k.us x hx).1, st _ (h.l.us x hx).2⟩, fun x hx => ⟨(k.ns x hx).1, st _ (h.l.ns x hx).2⟩, st _ h.l.ss, st _ h.l.gs, h.l.du, h.l.dn, h.l.un, f _ h.l.dx fun b hb => (own_lt h.l.d b hb).2, f _ h.l.ux fun b hb => (own_lt h.l.u b hb).2, f _ h.l.nx fun b hb => (own_lt h.l.n b hb).2, fun b hx => ?_⟩, h.k.kept hg, fun x hx => ?_, ?_, h.hB, h.hX⟩
  · rcases List.mem_cons.mp hx with rfl | hx
    · exact hb
    · exact (h.b x hx).keep hg
  · rcases List.mem_cons.mp hx with rfl | hx
    · exact hb.lt
    · exact k.xl b hx
  · rcases List.mem_cons.mp hx with rfl | hx
    · exact h.k.size
    · exact h.lo x hx
  · simp only [List.map_cons, List.nodup_cons]
    refine ⟨fun hm => ?_, h.nd⟩
    obtain ⟨x, hx, e⟩ := List.mem_map.mp hm
    have := (h.b x hx).lt
    omega
/-- The first box changes. -/
theorem Sw.box0 {q : Nat} {T T' : TypeId} {ys zs : Array Value} (h : Sw w B X ((q, T, ys) :: bs) sa sc sl ga gc gl da dc dl ua uc ul na nc nl W) (hg : W.grownBy W' (some q)) (hb : Bx W' q T' zs) : Sw w B X ((q, T', zs) :: bs) sa sc sl ga gc gl da dc dl ua uc ul na nc nl W' := by
  have hq := h.off0
  refine ⟨fun x hx => ?_, h.l.of hg.size fun k hk hx => hg.block k hk fun e => hx (by cases e; simp), h.k.row hg fun b hb => (by cases hb; exact ⟨by have := h.lo (q, T, ys) (by simp); have := h.hB; dsimp only at *; omega, fun hx => hq (List.mem_append_right _ hx)⟩), fun x hx => ?_, h.nd, h.hB, h.hX⟩
  · rcases List.mem_cons.mp hx with rfl | hx2
    · exact hb
    · have hm : x.1 ∈ bs.map (·.1) := List.mem_map.mpr ⟨x, hx2, rfl⟩
      exact (h.b x (List.mem_cons_of_mem _ hx2)).kept hg fun e => hq (by cases e; exact List.mem_append_left _ hm)
  · rcases List.mem_cons.mp hx with rfl | hx
    · exact h.lo (q, T, ys) (by simp)
    · exact h.lo x (List.mem_cons_of_mem _ hx)
/-- The first box's row has moved into a new block. -/
theorem Sw.boxM {q q' : Nat} {T T' : TypeId} {ys zs : Array Value} (h : Sw w B X ((q, T, ys) :: bs) sa sc sl ga gc gl da dc dl ua uc ul na nc nl W) (hg : W.grownBy W' (some q)) (hq' : q' = W.heap.size) (hb : Bx W' q' T' zs) : Sw w B X ((q', T', zs) :: bs) sa sc sl ga gc gl da dc dl ua uc ul na nc nl W' := by
  have hq := h.off0
  have k1 : LwAt W' B (q :: (bs.map (·.1) ++ X)) sa sc sl ga gc gl da dc dl ua uc ul na nc nl := h.l.of hg.size fun k hk hx => hg.block k hk fun e => hx (by cases e; simp)
  have k2 := LwAt.drop k1
  have old := h.drop0
  subst hq'
  have f : ∀ a, OffX (bs.map (·.1) ++ X) a → (∀ b, bkA a = some b → b < W.heap.size) → OffX (W.heap.size :: (bs.map (·.1) ++ X)) a := fun a o l b hb hx => by
    rcases List.mem_cons.mp hx with rfl | hx
    · exact absurd (l _ hb) (Nat.lt_irrefl _)
    · exact o b hb hx
  have st : ∀ a, StA W (bs.map (·.1) ++ X) da ua na a → StA W' (W.heap.size :: (bs.map (·.1) ++ X)) da ua na a := fun a o => ⟨(o.of hg.size).lt, f _ o.x o.lt, o.d, o.u, o.n⟩
  refine ⟨fun x hx => ?_, ⟨k2.s, k2.g, k2.d, k2.u, k2.n, fun x hx => ⟨(k2.us x hx).1, st _ (old.l.us x hx).2⟩, fun x hx => ⟨(k2.ns x hx).1, st _ (old.l.ns x hx).2⟩, st _ old.l.ss, st _ old.l.gs, h.l.du, h.l.dn, h.l.un, f _ old.l.dx fun b hb => (own_lt h.l.d b hb).2, f _ old.l.ux fun b hb => (own_lt h.l.u b hb).2, f _ old.l.nx fun b hb => (own_lt h.l.n b hb).2, fun b hx => ?_⟩, h.k.row hg fun b hb => (by cases hb; exact ⟨by have := h.lo (q, T, ys) (by simp); have := h.hB; dsimp only at *; omega, fun hx => hq (List.mem_append_right _ hx)⟩), fun x hx => ?_, ?_, h.hB, h.hX⟩
  · rcases List.mem_cons.mp hx with rfl | hx
    · exact hb
    · have hm : x.1 ∈ bs.map (·.1) := List.mem_map.mpr ⟨x, hx, rfl⟩
      exact (old.b x hx).kept hg fun e => hq (by cases e; exact List.mem_append_left _ hm)
  · rcases List.mem_cons.mp hx with rfl | hx
    · exact hb.lt
    · exact k2.xl b hx
  · rcases List.mem_cons.mp hx with rfl | hx
    · exact h.k.size
    · exact old.lo x hx
  · simp only [List.map_cons, List.nodup_cons]
    refine ⟨fun hm => ?_, old.nd⟩
    obtain ⟨x, hx, e⟩ := List.mem_map.mp hm
    have := (old.b x hx).lt
    omega

/-- The ack's ranges as they grow: none yet, or a row that is the first box. -/
def AkAt (w : World) (B : Nat) (X : List Nat) (bs : List (Nat × TypeId × Array Value)) (sa : Option Addr) (sc : Nat) (sl : List Rg) (ga : Option Addr) (gc : Nat) (gl : List Pk) (da : Option Addr) (dc : Nat) (dl : List Rg) (ua : Option Addr) (uc : Nat) (ul : List Nt) (na : Option Addr) (nc : Nat) (nl : List Nt) (aa : Option Addr) (ac : Nat) (al : List Rg) (W : World) : Prop :=
  (aa = none ∧ ac = 0 ∧ al = [] ∧ Sw w B X bs sa sc sl ga gc gl da dc dl ua uc ul na nc nl W) ∨ ∃ (q : Nat) (ys : Array Value), aa = some ⟨q, 0, none⟩ ∧ W.ownsRow 0 44 2 (.slice aa al.length ac) al.length (rgsV al) ∧ Sw w B X ((q, 44, ys) :: bs) sa sc sl ga gc gl da dc dl ua uc ul na nc nl W
theorem AkAt.sw {aa : Option Addr} {ac : Nat} {al : List Rg} (h : AkAt w B X bs sa sc sl ga gc gl da dc dl ua uc ul na nc nl aa ac al W) : Sw w B X bs sa sc sl ga gc gl da dc dl ua uc ul na nc nl W := by
  rcases h with ⟨_, _, _, h⟩ | ⟨_, _, _, _, h⟩
  · exact h
  · exact h.drop0
theorem AkAt.own {aa : Option Addr} {ac : Nat} {al : List Rg} (h : AkAt w B X bs sa sc sl ga gc gl da dc dl ua uc ul na nc nl aa ac al W) : W.ownsRow 0 44 2 (.slice aa al.length ac) al.length (rgsV al) := by
  rcases h with ⟨rfl, rfl, rfl, _⟩ | ⟨_, _, _, h, _⟩
  · exact World.ownsRow_nil _ _ _ _
  · exact h
theorem AkAt.keep {aa : Option Addr} {ac : Nat} {al : List Rg} (h : AkAt w B X bs sa sc sl ga gc gl da dc dl ua uc ul na nc nl aa ac al W) (hg : W.grownBy W' none) : AkAt w B X bs sa sc sl ga gc gl da dc dl ua uc ul na nc nl aa ac al W' := by
  rcases h with ⟨h1, h2, h3, h⟩ | ⟨q, ys, h1, h2, h⟩
  · exact .inl ⟨h1, h2, h3, h.keep hg⟩
  · exact .inr ⟨q, ys, h1, own_kept h2 hg, h.keep hg⟩
theorem bx_of_own {q c m : Nat} {xs : List Value} (h : W.ownsRow 0 44 2 (.slice (some ⟨q, 0, none⟩) m c) m xs) : ∃ ys, Bx W q 44 ys := by
  rcases h.2 with ⟨h, _⟩ | ⟨g, cap, cur, hv, _, h2, _⟩
  · simp at h
  · simp only [Value.slice.injEq, Option.some.injEq, Addr.mk.injEq, and_true, true_and] at hv
    obtain ⟨rfl, _⟩ := hv
    exact ⟨cur, h2⟩
/-- One range more. -/
theorem AkAt.push {aa : Option Addr} {ac q c H : Nat} {al : List Rg} {x : Rg} (h : AkAt w B X bs sa sc sl ga gc gl da dc dl ua uc ul na nc nl aa ac al W) (hr : W'.ownsRow 0 44 2 (.slice (some ⟨q, 0, none⟩) (al.length + 1) c) (al.length + 1) (rgsV al ++ [.int .i64 x.1, .int .i64 x.2])) (hg : W.grownBy W' (Value.ownBlock (.slice aa al.length ac))) (hat : Value.ownBlock (.slice aa al.length ac) = some q ∨ q = H) (hH : W.heap.size = H) : AkAt w B X bs sa sc sl ga gc gl da dc dl ua uc ul na nc nl (some ⟨q, 0, none⟩) c (al ++ [x]) W' := by
  obtain ⟨zs, hz⟩ := bx_of_own hr
  have e : rgsV (al ++ [x]) = rgsV al ++ [.int .i64 x.1, .int .i64 x.2] := rgsV_app al [x]
  have hr2 : W'.ownsRow 0 44 2 (.slice (some ⟨q, 0, none⟩) (al ++ [x]).length c) (al ++ [x]).length (rgsV (al ++ [x])) := by rw [e, List.length_append]; exact hr
  rw [own_bk] at hg hat
  rcases h with ⟨rfl, rfl, rfl, h⟩ | ⟨p, ys, rfl, h2, h⟩
  · rcases hat with hat | hat
    · cases hat
    · exact .inr ⟨q, zs, rfl, hr2, h.boxN hg (by rw [hat, hH]) hz⟩
  · rcases hat with hat | hat
    · cases hat
      exact .inr ⟨p, zs, rfl, hr2, h.box0 hg hz⟩
    · exact .inr ⟨q, zs, rfl, hr2, h.boxM hg (by rw [hat, hH]) hz⟩
/-- The ack with its ranges may be told. -/
theorem AkAt.stN {aa : Option Addr} {ac : Nat} {al : List Rg} (h : AkAt w B X bs sa sc sl ga gc gl da dc dl ua uc ul na nc nl aa ac al W) (k f n : Int) : StN W (bs.map (·.1) ++ X) da ua na ⟨k, f, n, aa, ac, al⟩ := by
  rcases h with ⟨rfl, rfl, rfl, _⟩ | ⟨q, ys, rfl, h2, h⟩
  · exact stN_nil k f n
  · exact ⟨own_rowOk h2, fun b hb => (own_lt h2 b hb).2, fun b hb hx => (by cases hb; exact h.off0 hx), fun b hb e => (by cases e; exact h.l.dx _ hb (by simp)), fun b hb e => (by cases e; exact h.l.ux _ hb (by simp)), fun b hb e => (by cases e; exact h.l.nx _ hb (by simp))⟩
end

end Go.Proofs.Ytedhemllgpbheaa

