/- Wl -/
import Derived.Test.YtedhemllgpbheaaQ11
import Derived.Test.YtedhemllgpbheaaQ12
import Derived.Test.YtedhemllgpbheaaQ19
namespace Go.Proofs.Ytedhemllgpbheaa
open Go.RowKit
open P7 (Pk PkAt pksV)

abbrev bkA (a : Option Addr) : Option Nat := a.map Addr.block
def Dj (a b : Option Addr) : Prop := ∀ x, bkA a = some x → bkA b ≠ some x
/-- The block of an address is the same in both. -/
def Sm (a : Option Addr) (W W' : World) : Prop := ∀ b, bkA a = some b → W'.heap[b]? = W.heap[b]?
theorem own_bk (a : Option Addr) (n c : Nat) : Value.ownBlock (.slice a n c) = bkA a := by cases a <;> rfl
theorem Dj.symm {a b : Option Addr} (h : Dj a b) : Dj b a := fun x h1 h2 => h x h2 h1
theorem rowOk_of {W W' : World} {a : Option Addr} {c : Nat} {l : List Rg} (h : RowOk W a c l) (e : Sm a W W') : RowOk W' a c l := by
  rcases h with h | ⟨b, off, rfl, h1, h2, h3⟩
  · exact .inl h
  · have hb := e b rfl
    exact .inr ⟨b, off, rfl, h1, h2, fun i hi => ⟨(World.cell?_of_block (a := ⟨b, off + i * 2, none⟩) hb).trans (h3 i hi).1, (World.cell?_of_block (a := ⟨b, off + i * 2 + 1, none⟩) hb).trans (h3 i hi).2⟩⟩
theorem own_of {W W' : World} {B : Nat} {t : TypeId} {s n m c : Nat} {a : Option Addr} {xs : List Value} (h : W.ownsRow B t s (.slice a n c) m xs) (e : Sm a W W') : W'.ownsRow B t s (.slice a n c) m xs := by
  refine ⟨h.1, ?_⟩
  rcases h.2 with h | ⟨g, cap, cur, hv, h1, h2, h3⟩
  · exact .inl h
  · refine .inr ⟨g, cap, cur, hv, h1, ?_, h3⟩
    simp only [Value.slice.injEq] at hv
    obtain ⟨rfl, _⟩ := hv
    exact (e g rfl).trans h2
theorem own_lt {W : World} {B : Nat} {t : TypeId} {s n m c : Nat} {a : Option Addr} {xs : List Value} (h : W.ownsRow B t s (.slice a n c) m xs) : ∀ b, bkA a = some b → B ≤ b ∧ b < W.heap.size := fun b hb => h.lt b (by rw [own_bk]; exact hb)
theorem own_form {W : World} {B : Nat} {t : TypeId} {s n m c : Nat} {a : Option Addr} {xs : List Value} (h : W.ownsRow B t s (.slice a n c) m xs) : (a = none ∧ c = 0 ∧ m = 0) ∨ ∃ g, a = some ⟨g, 0, none⟩ := by
  rcases h.2 with ⟨h, h0⟩ | ⟨g, cap, cur, hv, h1, h2, h3⟩
  · simp only [Value.slice.injEq] at h
    exact .inl ⟨h.1, h.2.2, h0⟩
  · simp only [Value.slice.injEq] at hv
    exact .inr ⟨g, hv.1⟩

/-- A row of pieces that is read. -/
def PkRow (W : World) (a : Option Addr) (c : Nat) (l : List Pk) : Prop :=
  (a = none ∧ c = 0 ∧ l = []) ∨ ∃ b off, a = some ⟨b, off, none⟩ ∧ b < W.heap.size ∧ ∀ i (h : i < l.length), W.cell? ⟨b, off + i * 2, none⟩ = some (.int .i64 (l[i]).1) ∧ W.cell? ⟨b, off + i * 2 + 1, none⟩ = some (.string ⟨(l[i]).2.toArray⟩)
theorem PkRow.at {W : World} {a : Option Addr} {c : Nat} {l : List Pk} (h : PkRow W a c l) : PkAt W a l := by
  rcases h with h | h
  · exact .inl h.2.2
  · exact .inr h
theorem pkRow_of {W W' : World} {a : Option Addr} {c : Nat} {l : List Pk} (h : PkRow W a c l) (hs : W.heap.size ≤ W'.heap.size) (e : Sm a W W') : PkRow W' a c l := by
  rcases h with h | ⟨b, off, rfl, h1, h3⟩
  · exact .inl h
  · have hb := e b rfl
    exact .inr ⟨b, off, rfl, by omega, fun i hi => ⟨(World.cell?_of_block (a := ⟨b, off + i * 2, none⟩) hb).trans (h3 i hi).1, (World.cell?_of_block (a := ⟨b, off + i * 2 + 1, none⟩) hb).trans (h3 i hi).2⟩⟩
theorem pkRow_own {W : World} {B c : Nat} {a : Option Addr} {l : List Pk} (h : W.ownsRow B 73 2 (.slice a l.length c) l.length (pksV l)) : PkRow W a c l := by
  rcases own_form h with ⟨rfl, rfl, h0⟩ | ⟨g, rfl⟩
  · exact .inl ⟨rfl, rfl, List.length_eq_zero_iff.mp h0⟩
  · rcases P7.pkAt_own h rfl with h1 | ⟨b, off, e1, h2, h3⟩
    · subst h1
      exact .inr ⟨g, 0, rfl, (own_lt h g rfl).2, fun i hi => by simp at hi⟩
    · exact .inr ⟨b, off, e1, h2, h3⟩
/-- A row of notes that is read. -/
def NtRow (W : World) (a : Option Addr) (c : Nat) (l : List Nt) : Prop :=
  ((a = none ∧ c = 0 ∧ l = []) ∨ ∃ b off, a = some ⟨b, off, none⟩ ∧ b < W.heap.size ∧ ∀ i (h : i < l.length), NtC W b (off + i * 4) l[i]) ∧ ∀ x ∈ l, RowOk W x.a x.c x.l
theorem NtRow.at {W : World} {a : Option Addr} {c : Nat} {l : List Nt} (h : NtRow W a c l) : NtAt W a l := by
  rcases h with ⟨h | ⟨b, off, h1, h2, h3⟩, h4⟩
  · exact .inl h.2.2
  · exact .inr ⟨b, off, h1, h2, fun i hi => ⟨h3 i hi, (h4 _ (List.getElem_mem hi)).at⟩⟩
theorem ntRow_own {W : World} {B c : Nat} {a : Option Addr} {l : List Nt} (h : W.ownsRow B 33 4 (.slice a l.length c) l.length (ntsV l)) (hs : ∀ x ∈ l, RowOk W x.a x.c x.l) : NtRow W a c l := by
  refine ⟨?_, hs⟩
  rcases own_form h with ⟨rfl, rfl, h0⟩ | ⟨g, rfl⟩
  · exact .inl ⟨rfl, rfl, List.length_eq_zero_iff.mp h0⟩
  · refine .inr ⟨g, 0, rfl, (own_lt h g rfl).2, fun i hi => ?_⟩
    have hg := ntsV_get l i hi
    unfold NtC
    rw [Nat.zero_add, h.cellAt (i * 4) (by omega), h.cellAt (i * 4 + 1) (by omega), h.cellAt (i * 4 + 2) (by omega), h.cellAt (i * 4 + 3) (by omega)]
    exact hg
theorem NtRow.kept {W W' : World} {a : Option Addr} {c : Nat} {l : List Nt} (h : NtRow W a c l) (hg : W.grownBy W' none) : NtRow W' a c l := by
  refine ⟨?_, fun x hx => (h.2 x hx).kept hg⟩
  rcases h.1 with h | ⟨b, off, h1, h2, h3⟩
  · exact .inl h
  · exact .inr ⟨b, off, h1, Nat.lt_of_lt_of_le h2 hg.size, fun i hi => (h3 i hi).kept hg⟩
theorem PkRow.kept {W W' : World} {a : Option Addr} {c : Nat} {l : List Pk} (h : PkRow W a c l) (hg : W.grownBy W' none) : PkRow W' a c l := by
  rcases h with h | ⟨b, off, h1, h2, h3⟩
  · exact .inl h
  · exact .inr ⟨b, off, h1, Nat.lt_of_lt_of_le h2 hg.size, fun i hi => ⟨hg.cell (h3 i hi).1 (by simp), hg.cell (h3 i hi).2 (by simp)⟩⟩

/-- A world's rows, to be read. -/
structure LrAt (W : World) (sa : Option Addr) (sc : Nat) (sl : List Rg) (ga : Option Addr) (gc : Nat) (gl : List Pk) (da : Option Addr) (dc : Nat) (dl : List Rg) (ua : Option Addr) (uc : Nat) (ul : List Nt) (na : Option Addr) (nc : Nat) (nl : List Nt) : Prop where
  s : RowOk W sa sc sl
  g : PkRow W ga gc gl
  d : RowOk W da dc dl
  u : NtRow W ua uc ul
  n : NtRow W na nc nl

def OffX (X : List Nat) (a : Option Addr) : Prop := ∀ b, bkA a = some b → b ∉ X
/-- A row that is only read lies below, in none of the boxes, and in none of the three rows that grow. -/
structure StA (W : World) (X : List Nat) (da ua na a : Option Addr) : Prop where
  lt : ∀ b, bkA a = some b → b < W.heap.size
  x : OffX X a
  d : Dj da a
  u : Dj ua a
  n : Dj na a
def StN (W : World) (X : List Nat) (da ua na : Option Addr) (x : Nt) : Prop := RowOk W x.a x.c x.l ∧ StA W X da ua na x.a

/-- A world of one's own: its rows. -/
structure LwAt (W : World) (B : Nat) (X : List Nat) (sa : Option Addr) (sc : Nat) (sl : List Rg) (ga : Option Addr) (gc : Nat) (gl : List Pk) (da : Option Addr) (dc : Nat) (dl : List Rg) (ua : Option Addr) (uc : Nat) (ul : List Nt) (na : Option Addr) (nc : Nat) (nl : List Nt) : Prop where
  s : RowOk W sa sc sl
  g : PkRow W ga gc gl
  d : W.ownsRow B 44 2 (.slice da dl.length dc) dl.length (rgsV dl)
  u : W.ownsRow B 33 4 (.slice ua ul.length uc) ul.length (ntsV ul)
  n : W.ownsRow B 33 4 (.slice na nl.length nc) nl.length (ntsV nl)
  us : ∀ x ∈ ul, StN W X da ua na x
  ns : ∀ x ∈ nl, StN W X da ua na x
  ss : StA W X da ua na sa
  gs : StA W X da ua na ga
  du : Dj da ua
  dn : Dj da na
  un : Dj ua na
  dx : OffX X da
  ux : OffX X ua
  nx : OffX X na
  xl : ∀ b ∈ X, b < W.heap.size

section
variable {W W' : World} {B : Nat} {X : List Nat} {sa : Option Addr} {sc : Nat} {sl : List Rg} {ga : Option Addr} {gc : Nat} {gl : List Pk} {da : Option Addr} {dc : Nat} {dl : List Rg} {ua : Option Addr} {uc : Nat} {ul : List Nt} {na : Option Addr} {nc : Nat} {nl : List Nt}
theorem LwAt.r (h : LwAt W B X sa sc sl ga gc gl da dc dl ua uc ul na nc nl) : LrAt W sa sc sl ga gc gl da dc dl ua uc ul na nc nl :=
  ⟨h.s, h.g, own_rowOk h.d, ntRow_own h.u fun x hx => (h.us x hx).1, ntRow_own h.n fun x hx => (h.ns x hx).1⟩
theorem LrAt.kept (h : LrAt W sa sc sl ga gc gl da dc dl ua uc ul na nc nl) (hg : W.grownBy W' none) : LrAt W' sa sc sl ga gc gl da dc dl ua uc ul na nc nl :=
  ⟨h.s.kept hg, h.g.kept hg, h.d.kept hg, h.u.kept hg, h.n.kept hg⟩
theorem LrAt.wd (h : LrAt W sa sc sl ga gc gl da dc dl ua uc ul na nc nl) : WdAt W sa sl ga gl da dl ua ul na nl :=
  ⟨h.s.at, h.g.at, h.d.at, h.u.at, h.n.at⟩

theorem StA.of {a : Option Addr} (h : StA W X da ua na a) (hs : W.heap.size ≤ W'.heap.size) : StA W' X da ua na a := ⟨fun b hb => Nat.lt_of_lt_of_le (h.lt b hb) hs, h.x, h.d, h.u, h.n⟩
theorem StN.of {x : Nt} (h : StN W X da ua na x) (hs : W.heap.size ≤ W'.heap.size) (e : Sm x.a W W') : StN W' X da ua na x := ⟨rowOk_of h.1 e, h.2.of hs⟩
/-- Whatever changes in the boxes, and above. -/
theorem LwAt.of (h : LwAt W B X sa sc sl ga gc gl da dc dl ua uc ul na nc nl) (hs : W.heap.size ≤ W'.heap.size) (e : ∀ k, k < W.heap.size → k ∉ X → W'.heap[k]? = W.heap[k]?) : LwAt W' B X sa sc sl ga gc gl da dc dl ua uc ul na nc nl := by
  have es : ∀ a, StA W X da ua na a → Sm a W W' := fun a k b hb => e b (k.lt b hb) (k.x b hb)
  exact ⟨rowOk_of h.s (es _ h.ss), pkRow_of h.g hs (es _ h.gs), own_of h.d fun b hb => e b (own_lt h.d b hb).2 (h.dx b hb), own_of h.u fun b hb => e b (own_lt h.u b hb).2 (h.ux b hb), own_of h.n fun b hb => e b (own_lt h.n b hb).2 (h.nx b hb),
    fun x hx => (h.us x hx).of hs (es _ (h.us x hx).2), fun x hx => (h.ns x hx).of hs (es _ (h.ns x hx).2), h.ss.of hs, h.gs.of hs, h.du, h.dn, h.un, h.dx, h.ux, h.nx, fun b hb => Nat.lt_of_lt_of_le (h.xl b hb) hs⟩
theorem LwAt.kept (h : LwAt W B X sa sc sl ga gc gl da dc dl ua uc ul na nc nl) (hg : W.grownBy W' none) : LwAt W' B X sa sc sl ga gc gl da dc dl ua uc ul na nc nl := h.of hg.size fun k hk _ => hg.block k hk (by simp)
theorem LwAt.set (h : LwAt W B X sa sc sl ga gc gl da dc dl ua uc ul na nc nl) {C : Nat} (hC : C ∈ X) (i : Nat) (v : Value) : LwAt (W.setCell ⟨C, i, none⟩ v) B X sa sc sl ga gc gl da dc dl ua uc ul na nc nl :=
  h.of (by simp [World.setCell]) fun k _ hx => Below.heap_setCell _ _ _ k (fun e => hx (e ▸ hC))
theorem LwAt.drop {C : Nat} (h : LwAt W B (C :: X) sa sc sl ga gc gl da dc dl ua uc ul na nc nl) : LwAt W B X sa sc sl ga gc gl da dc dl ua uc ul na nc nl := by
  have f : ∀ a, OffX (C :: X) a → OffX X a := fun a k b hb hx => k b hb (List.mem_cons_of_mem _ hx)
  have st : ∀ a, StA W (C :: X) da ua na a → StA W X da ua na a := fun a k => ⟨k.lt, f _ k.x, k.d, k.u, k.n⟩
  exact ⟨h.s, h.g, h.d, h.u, h.n, fun x hx => ⟨(h.us x hx).1, st _ (h.us x hx).2⟩, fun x hx => ⟨(h.ns x hx).1, st _ (h.ns x hx).2⟩, st _ h.ss, st _ h.gs, h.du, h.dn, h.un, f _ h.dx, f _ h.ux, f _ h.nx, fun b hb => h.xl b (List.mem_cons_of_mem _ hb)⟩
/-- A box more. -/
theorem LwAt.box (h : LwAt W B X sa sc sl ga gc gl da dc dl ua uc ul na nc nl) (o : Obj) : LwAt (W.alloc o) B (W.heap.size :: X) sa sc sl ga gc gl da dc dl ua uc ul na nc nl := by
  have k := h.kept (World.grownBy_alloc W o none)
  have f : ∀ a, OffX X a → (∀ b, bkA a = some b → b < W.heap.size) → OffX (W.heap.size :: X) a := fun a q l b hb hx => by
    rcases List.mem_cons.mp hx with rfl | hx
    · exact absurd (l _ hb) (Nat.lt_irrefl _)
    · exact q b hb hx
  have st : ∀ a, StA W X da ua na a → StA (W.alloc o) (W.heap.size :: X) da ua na a := fun a q => ⟨(q.of (World.grownBy_alloc W o none).size).lt, f _ q.x q.lt, q.d, q.u, q.n⟩
  refine ⟨k.s, k.g, k.d, k.u, k.n, fun x hx => ⟨(k.us x hx).1, st _ (h.us x hx).2⟩, fun x hx => ⟨(k.ns x hx).1, st _ (h.ns x hx).2⟩, st _ h.ss, st _ h.gs, h.du, h.dn, h.un, f _ h.dx fun b hb => (own_lt h.d b hb).2, f _ h.ux fun b hb => (own_lt h.u b hb).2, f _ h.nx fun b hb => (own_lt h.n b hb).2, fun b hb => ?_⟩
  rcases List.mem_cons.mp hb with rfl | hb
  · simp
  · exact k.xl b hb

theorem dj_new {a a' b : Option Addr} {H : Nat} (hat : bkA a' = bkA a ∨ bkA a' = some H) (hd : Dj a b) (hl : ∀ x, bkA b = some x → x < H) : Dj a' b := fun x h1 h2 => by
  rcases hat with e | e
  · exact hd x (e ▸ h1) h2
  · have := hl x h2
    rw [e] at h1
    cases h1
    omega
theorem off_new {a a' : Option Addr} {H : Nat} (hat : bkA a' = bkA a ∨ bkA a' = some H) (hd : OffX X a) (hl : ∀ x ∈ X, x < H) : OffX X a' := fun x h1 h2 => by
  rcases hat with e | e
  · exact hd x (e ▸ h1) h2
  · have := hl x h2
    rw [e] at h1
    cases h1
    omega

/-- What went down grows, or lies anew. -/
theorem LwAt.growD {da' : Option Addr} {dc' : Nat} {dl' : List Rg} (h : LwAt W B X sa sc sl ga gc gl da dc dl ua uc ul na nc nl) (hr : W'.ownsRow B 44 2 (.slice da' dl'.length dc') dl'.length (rgsV dl')) (hg : W.grownBy W' (bkA da)) (hat : bkA da' = bkA da ∨ bkA da' = some W.heap.size) : LwAt W' B X sa sc sl ga gc gl da' dc' dl' ua uc ul na nc nl := by
  have es : ∀ a, Dj da a → (∀ b, bkA a = some b → b < W.heap.size) → Sm a W W' := fun a k l b hb => hg.block b (l b hb) (fun e => k b e.symm hb)
  have lu := fun b hb => (own_lt h.u b hb).2
  have ln := fun b hb => (own_lt h.n b hb).2
  have st : ∀ a, StA W X da ua na a → StA W' X da' ua na a := fun a q => ⟨(q.of hg.size).lt, q.x, dj_new hat q.d q.lt, q.u, q.n⟩
  exact ⟨rowOk_of h.s (es _ h.ss.d h.ss.lt), pkRow_of h.g hg.size (es _ h.gs.d h.gs.lt), hr, own_of h.u (es _ h.du lu), own_of h.n (es _ h.dn ln),
    fun x hx => ⟨rowOk_of (h.us x hx).1 (es _ (h.us x hx).2.d (h.us x hx).2.lt), st _ (h.us x hx).2⟩, fun x hx => ⟨rowOk_of (h.ns x hx).1 (es _ (h.ns x hx).2.d (h.ns x hx).2.lt), st _ (h.ns x hx).2⟩, st _ h.ss, st _ h.gs,
    dj_new hat h.du lu, dj_new hat h.dn ln, h.un, off_new hat h.dx h.xl, h.ux, h.nx, fun b hb => Nat.lt_of_lt_of_le (h.xl b hb) hg.size⟩
/-- What comes up grows, or lies anew. -/
theorem LwAt.growU {ua' : Option Addr} {uc' : Nat} {ul' : List Nt} (h : LwAt W B X sa sc sl ga gc gl da dc dl ua uc ul na nc nl) (hr : W'.ownsRow B 33 4 (.slice ua' ul'.length uc') ul'.length (ntsV ul')) (hg : W.grownBy W' (bkA ua)) (hat : bkA ua' = bkA ua ∨ bkA ua' = some W.heap.size) (hm : ∀ x ∈ ul', StN W X da ua na x) : LwAt W' B X sa sc sl ga gc gl da dc dl ua' uc' ul' na nc nl := by
  have es : ∀ a, Dj ua a → (∀ b, bkA a = some b → b < W.heap.size) → Sm a W W' := fun a k l b hb => hg.block b (l b hb) (fun e => k b e.symm hb)
  have ld := fun b hb => (own_lt h.d b hb).2
  have ln := fun b hb => (own_lt h.n b hb).2
  have st : ∀ a, StA W X da ua na a → StA W' X da ua' na a := fun a q => ⟨(q.of hg.size).lt, q.x, q.d, dj_new hat q.u q.lt, q.n⟩
  exact ⟨rowOk_of h.s (es _ h.ss.u h.ss.lt), pkRow_of h.g hg.size (es _ h.gs.u h.gs.lt), own_of h.d (es _ h.du.symm ld), hr, own_of h.n (es _ h.un ln),
    fun x hx => ⟨rowOk_of (hm x hx).1 (es _ (hm x hx).2.u (hm x hx).2.lt), st _ (hm x hx).2⟩, fun x hx => ⟨rowOk_of (h.ns x hx).1 (es _ (h.ns x hx).2.u (h.ns x hx).2.lt), st _ (h.ns x hx).2⟩, st _ h.ss, st _ h.gs,
    (dj_new hat h.du.symm ld).symm, h.dn, dj_new hat h.un ln, h.dx, off_new hat h.ux h.xl, h.nx, fun b hb => Nat.lt_of_lt_of_le (h.xl b hb) hg.size⟩
/-- What was seen grows. -/
theorem LwAt.growN {na' : Option Addr} {nc' : Nat} {nl' : List Nt} (h : LwAt W B X sa sc sl ga gc gl da dc dl ua uc ul na nc nl) (hr : W'.ownsRow B 33 4 (.slice na' nl'.length nc') nl'.length (ntsV nl')) (hg : W.grownBy W' (bkA na)) (hat : bkA na' = bkA na ∨ bkA na' = some W.heap.size) (hm : ∀ x ∈ nl', StN W X da ua na x) : LwAt W' B X sa sc sl ga gc gl da dc dl ua uc ul na' nc' nl' := by
  have es : ∀ a, Dj na a → (∀ b, bkA a = some b → b < W.heap.size) → Sm a W W' := fun a k l b hb => hg.block b (l b hb) (fun e => k b e.symm hb)
  have ld := fun b hb => (own_lt h.d b hb).2
  have lu := fun b hb => (own_lt h.u b hb).2
  have st : ∀ a, StA W X da ua na a → StA W' X da ua na' a := fun a q => ⟨(q.of hg.size).lt, q.x, q.d, q.u, dj_new hat q.n q.lt⟩
  exact ⟨rowOk_of h.s (es _ h.ss.n h.ss.lt), pkRow_of h.g hg.size (es _ h.gs.n h.gs.lt), own_of h.d (es _ h.dn.symm ld), own_of h.u (es _ h.un.symm lu), hr,
    fun x hx => ⟨rowOk_of (h.us x hx).1 (es _ (h.us x hx).2.n (h.us x hx).2.lt), st _ (h.us x hx).2⟩, fun x hx => ⟨rowOk_of (hm x hx).1 (es _ (hm x hx).2.n (hm x hx).2.lt), st _ (hm x hx).2⟩, st _ h.ss, st _ h.gs,
    h.du, (dj_new hat h.dn.symm ld).symm, (dj_new hat h.un.symm lu).symm, h.dx, h.ux, off_new hat h.nx h.xl, fun b hb => Nat.lt_of_lt_of_le (h.xl b hb) hg.size⟩

/-- What lies above the rows, and apart from them. -/
theorem LwAt.fresh (h : LwAt W B X sa sc sl ga gc gl da dc dl ua uc ul na nc nl) {a : Option Addr} (ha : ∀ b, bkA a = some b → W.heap.size ≤ b ∧ b < W'.heap.size) : StA W' X da ua na a :=
  ⟨fun b hb => (ha b hb).2, fun b hb hx => by have := (ha b hb).1; have := h.xl b hx; omega, fun x h1 h2 => by have := (ha x h2).1; have := (own_lt h.d x h1).2; omega,
    fun x h1 h2 => by have := (ha x h2).1; have := (own_lt h.u x h1).2; omega, fun x h1 h2 => by have := (ha x h2).1; have := (own_lt h.n x h1).2; omega⟩
theorem LwAt.setS {sa' : Option Addr} {sc' : Nat} {sl' : List Rg} (h : LwAt W B X sa sc sl ga gc gl da dc dl ua uc ul na nc nl) (hr : RowOk W sa' sc' sl') (hs : StA W X da ua na sa') : LwAt W B X sa' sc' sl' ga gc gl da dc dl ua uc ul na nc nl :=
  { h with s := hr, ss := hs }
theorem LwAt.setG {ga' : Option Addr} {gc' : Nat} {gl' : List Pk} (h : LwAt W B X sa sc sl ga gc gl da dc dl ua uc ul na nc nl) (hr : PkRow W ga' gc' gl') (hs : StA W X da ua na ga') : LwAt W B X sa sc sl ga' gc' gl' da dc dl ua uc ul na nc nl :=
  { h with g := hr, gs := hs }
end

/-- What stood below a number, and what stands in the boxes, still stands. -/
structure Kx (B : Nat) (X : List Nat) (W W' : World) : Prop where
  os : W'.os = W.os
  tape : W'.tape = W.tape
  output : W'.output = W.output
  size : W.heap.size ≤ W'.heap.size
  block : ∀ k, k < W.heap.size → (k < B ∨ k ∈ X) → W'.heap[k]? = W.heap[k]?
theorem Kx.refl (B : Nat) (X : List Nat) (W : World) : Kx B X W W := ⟨rfl, rfl, rfl, Nat.le_refl _, fun _ _ _ => rfl⟩
theorem Kx.kept {B : Nat} {X : List Nat} {w W W' : World} (h : Kx B X w W) (hg : W.grownBy W' none) : Kx B X w W' :=
  ⟨hg.os.trans h.os, hg.tape.trans h.tape, hg.output.trans h.output, Nat.le_trans h.size hg.size, fun k hk hx => (hg.block k (Nat.lt_of_lt_of_le hk h.size) (by simp)).trans (h.block k hk hx)⟩
theorem Kx.row {B : Nat} {X : List Nat} {w W W' : World} {r : Option Nat} (h : Kx B X w W) (hg : W.grownBy W' r) (hr : ∀ b, r = some b → B ≤ b ∧ b ∉ X) : Kx B X w W' :=
  ⟨hg.os.trans h.os, hg.tape.trans h.tape, hg.output.trans h.output, Nat.le_trans h.size hg.size, fun k hk hx => (hg.block k (Nat.lt_of_lt_of_le hk h.size) (fun e => by
    obtain ⟨h1, h2⟩ := hr k e.symm
    rcases hx with hx | hx
    · omega
    · exact h2 hx)).trans (h.block k hk hx)⟩
theorem Kx.set {B : Nat} {X : List Nat} {w W : World} (h : Kx B X w W) {C : Nat} (hC : w.heap.size ≤ C) (i : Nat) (v : Value) : Kx B X w (W.setCell ⟨C, i, none⟩ v) :=
  ⟨h.os, h.tape, h.output, by simp [World.setCell]; exact h.size, fun k hk hx => (Below.heap_setCell _ _ _ k (by simp; omega)).trans (h.block k hk hx)⟩
theorem Kx.call {B : Nat} {X Y : List Nat} {w W W' : World} (h : Kx B X w W) (k : Kx B Y W W') (hX : ∀ b ∈ X, b ∈ Y) : Kx B X w W' :=
  ⟨k.os.trans h.os, k.tape.trans h.tape, k.output.trans h.output, Nat.le_trans h.size k.size, fun j hj hx => (k.block j (Nat.lt_of_lt_of_le hj h.size) (hx.imp id (hX j))).trans (h.block j hj hx)⟩
theorem Kx.grown {B : Nat} {X : List Nat} {w W W' : World} (k : Kx B X W W') (hg : w.grownBy W none) (hB : w.heap.size ≤ B) : w.grownBy W' none :=
  ⟨k.os.trans hg.os, k.tape.trans hg.tape, k.output.trans hg.output, Nat.le_trans hg.size k.size, fun j hj _ => (k.block j (Nat.lt_of_lt_of_le hj hg.size) (.inl (by omega))).trans (hg.block j hj (by simp))⟩
theorem Kx.bx {B : Nat} {X : List Nat} {W W' : World} {C : Nat} {t : TypeId} {xs : Array Value} (k : Kx B X W W') (hC : C ∈ X) (h : Bx W C t xs) : Bx W' C t xs := (k.block C h.lt (.inr hC)).trans h
theorem Kx.sub {B : Nat} {X Y : List Nat} {W W' : World} (k : Kx B Y W W') (h : ∀ b ∈ X, b ∈ Y) : Kx B X W W' := ⟨k.os, k.tape, k.output, k.size, fun j hj hx => k.block j hj (hx.imp id (h j))⟩

end Go.Proofs.Ytedhemllgpbheaa

