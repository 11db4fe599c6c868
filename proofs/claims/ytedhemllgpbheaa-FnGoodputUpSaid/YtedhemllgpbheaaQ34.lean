/- Va -/
import Derived.Test.YtedhemllgpbheaaQ33
import Derived.Test.YtedhemllgpbheaaQ29
import Derived.Test.YtedhemllgpbheaaQ30
import Derived.Test.YtedhemllgpbheaaQ28
import Derived.Test.YtedhemllgpbheaaQ8
import Derived.Deep.DeepCutAuto
namespace Go.Proofs.Ytedhemllgpbheaa
open Go.RowKit
open P7 (Pk PkAt pksV PcsP prefL)

section
variable {w W W' : World} {B : Nat} {X : List Nat} {bs : List (Nat × TypeId × Array Value)} {sa : Option Addr} {sc : Nat} {sl : List Rg} {ga : Option Addr} {gc : Nat} {gl : List Pk} {da : Option Addr} {dc : Nat} {dl : List Rg} {ua : Option Addr} {uc : Nat} {ul : List Nt} {na : Option Addr} {nc : Nat} {nl : List Nt}
/-- All rows lie anew. -/
theorem Sw.anew {sa' : Option Addr} {sc' : Nat} {sl' : List Rg} {ga' : Option Addr} {gc' : Nat} {gl' : List Pk} {da' : Option Addr} {dc' : Nat} {dl' : List Rg} {ua' : Option Addr} {uc' : Nat} {ul' : List Nt} {na' : Option Addr} {nc' : Nat} {nl' : List Nt} (h : Sw w B X bs sa sc sl ga gc gl da dc dl ua uc ul na nc nl W) (hl : LwAt W' W.heap.size (bs.map (·.1) ++ X) sa' sc' sl' ga' gc' gl' da' dc' dl' ua' uc' ul' na' nc' nl') (hg : W.grownBy W' none) : Sw w B X bs sa' sc' sl' ga' gc' gl' da' dc' dl' ua' uc' ul' na' nc' nl' W' :=
  ⟨fun x hx => (h.b x hx).keep hg, hl.base (Nat.le_trans h.hB h.k.size), h.k.kept hg, h.lo, h.nd, h.hB, h.hX⟩
theorem StN.set {x : Nt} {C : Nat} (h : StN W X da ua na x) (hC : C ∈ X) (i : Nat) (v : Value) : StN (W.setCell ⟨C, i, none⟩ v) X da ua na x :=
  h.of (by simp [World.setCell]) fun b hb => Below.heap_setCell _ _ _ b (fun e => h.2.x b hb (e ▸ hC))
theorem stN_fresh {x : Nt} {ua' : Option Addr} (h : StN W X da ua na x) (hg : W.grownBy W' none) (hu : ∀ b, bkA ua' = some b → W.heap.size ≤ b) : StN W' X da ua' na x :=
  ⟨h.1.kept hg, fun b hb => Nat.lt_of_lt_of_le (h.2.lt b hb) hg.size, h.2.x, h.2.d, fun b h1 h2 => by have := hu b h1; have := h.2.lt b h2; omega, h.2.n⟩
end
theorem Kx.setRow {B : Nat} {X : List Nat} {w W : World} (h : Kx B X w W) {C : Nat} (hC : w.heap.size ≤ C) (ys : Array Value) : Kx B X w (W.setRow C ys) :=
  ⟨h.os, h.tape, h.output, by rw [setRow_size]; exact h.size, fun k hk hx => (setRow_other W C k ys (by omega)).trans (h.block k hk hx)⟩
theorem info_w : (Try.prog.info? 53).map (·.size) = some 15 := by kernel_rfl
section
variable {w W W' : World} {B : Nat} {X : List Nat} {bs : List (Nat × TypeId × Array Value)} {sa : Option Addr} {sc : Nat} {sl : List Rg} {ga : Option Addr} {gc : Nat} {gl : List Pk} {da : Option Addr} {dc : Nat} {dl : List Rg} {ua : Option Addr} {uc : Nat} {ul : List Nt} {na : Option Addr} {nc : Nat} {nl : List Nt}
/-- A box gets a row of values. -/
theorem Sw.setRow (pre : List (Nat × TypeId × Array Value)) {C : Nat} {T : TypeId} {xs : Array Value} {post : List (Nat × TypeId × Array Value)} (h : Sw w B X (pre ++ (C, T, xs) :: post) sa sc sl ga gc gl da dc dl ua uc ul na nc nl W) (ys : Array Value) : Sw w B X (pre ++ (C, T, ys) :: post) sa sc sl ga gc gl da dc dl ua uc ul na nc nl (W.setRow C ys) := by
  have em : (pre ++ (C, T, ys) :: post).map (·.1) = (pre ++ (C, T, xs) :: post).map (·.1) := by simp
  have hne : ∀ x, x ∈ pre ∨ x ∈ post → x.1 ≠ C := by
    intro x hx e
    have hn := h.nd
    simp only [List.map_append, List.map_cons] at hn
    obtain ⟨_, h2, h3⟩ := List.nodup_append.mp hn
    rcases hx with hx | hx
    · exact h3 _ (List.mem_map.mpr ⟨x, hx, rfl⟩) _ (List.mem_cons_self ..) e
    · exact (List.nodup_cons.mp h2).1 (e ▸ List.mem_map.mpr ⟨x, hx, rfl⟩)
  have hc := h.b (C, T, xs) (by simp)
  have hl : LwAt (W.setRow C ys) B ((pre ++ (C, T, xs) :: post).map (·.1) ++ X) sa sc sl ga gc gl da dc dl ua uc ul na nc nl := h.l.of (by rw [setRow_size]; exact Nat.le_refl _) fun k _ hx => setRow_other W C k ys (fun e => hx (by subst e; simp))
  refine ⟨fun x hx => ?_, em ▸ hl, h.k.setRow (h.lo (C, T, xs) (by simp)) ys, fun x hx => ?_, em ▸ h.nd, h.hB, h.hX⟩
  · rcases List.mem_append.mp hx with hx | hx
    · exact (setRow_other W C x.1 ys (hne x (.inl hx))).trans (h.b x (by simp [hx]))
    · rcases List.mem_cons.mp hx with rfl | hx
      · exact setRow_heap W C _ ys T (0, 0) hc
      · exact (setRow_other W C x.1 ys (hne x (.inr hx))).trans (h.b x (by simp [hx]))
  · rcases List.mem_append.mp hx with hx | hx
    · exact h.lo x (by simp [hx])
    · rcases List.mem_cons.mp hx with rfl | hx
      · exact h.lo (C, T, xs) (by simp)
      · exact h.lo x (by simp [hx])
theorem Sw.row0 {C : Nat} {T : TypeId} {xs : Array Value} (h : Sw w B X ((C, T, xs) :: bs) sa sc sl ga gc gl da dc dl ua uc ul na nc nl W) (ys : Array Value) : Sw w B X ((C, T, ys) :: bs) sa sc sl ga gc gl da dc dl ua uc ul na nc nl (W.setRow C ys) := Sw.setRow [] h ys
theorem Sw.row1 {b0 : Nat × TypeId × Array Value} {C : Nat} {T : TypeId} {xs : Array Value} (h : Sw w B X (b0 :: (C, T, xs) :: bs) sa sc sl ga gc gl da dc dl ua uc ul na nc nl W) (ys : Array Value) : Sw w B X (b0 :: (C, T, ys) :: bs) sa sc sl ga gc gl da dc dl ua uc ul na nc nl (W.setRow C ys) := Sw.setRow [b0] h ys
theorem Sw.row2 {b0 b1 : Nat × TypeId × Array Value} {C : Nat} {T : TypeId} {xs : Array Value} (h : Sw w B X (b0 :: b1 :: (C, T, xs) :: bs) sa sc sl ga gc gl da dc dl ua uc ul na nc nl W) (ys : Array Value) : Sw w B X (b0 :: b1 :: (C, T, ys) :: bs) sa sc sl ga gc gl da dc dl ua uc ul na nc nl (W.setRow C ys) := Sw.setRow [b0, b1] h ys
end
theorem results_world {P : Program} {fn : Func} {p q : Tmp} {ty : TypeId} (h : fn.results = #[.cell p ty, .tmp q]) (tmps : Array Value) (w : World) (g : Nat) (t : TypeId) (cs : Array Value) (fr : Nat × Nat) (d : TypeDesc) (v : Value)
    (hp : tmps.getD p undef = .pointer (some ⟨g, 0, none⟩)) (hv : tmps.getD q undef = v) (hg : w.heap[g]? = some (.cells cs t fr))
    (hu : P.underlying ty = some d) (hd : (match d with | .struct _ | .array _ _ => true | _ => false) = true) (hi : (P.info? ty).map (·.size) = some cs.size) :
    (results fn tmps).run P w = .ok (.tuple #[.agg cs, v]) w := by
  have hp' : tmps[p]?.getD undef = .pointer (some ⟨g, 0, none⟩) := by simpa using hp
  have hv' : tmps[q]?.getD undef = v := by simpa using hv
  simp [results, h, hp', hv', asAddr, run_loadVar_row w g t ty cs fr d hg hu hd hi]
/-- Cells of a block from its first one on. -/
def CellsAt (W : World) (g : Nat) (vs : List Value) : Prop := ∀ j u, vs[j]? = some u → W.cell? ⟨g, j, none⟩ = some u
theorem CellsAt.kept {W W' : World} {g : Nat} {vs : List Value} (h : CellsAt W g vs) (hg : W.grownBy W' none) : CellsAt W' g vs := fun j u hu => hg.cell (h j u hu) (by simp)
theorem cells_own {W : World} {B : Nat} {t : TypeId} {s n c g : Nat} {xs : List Value} (h : W.ownsRow B t s (.slice (some ⟨g, 0, none⟩) n c) n xs) : CellsAt W g xs := fun j u hu => by
  have hj := (List.getElem?_eq_some_iff.mp hu).1
  rw [h.1] at hj
  rw [h.cellAt j hj]
  exact hu
theorem cap_own {W : World} {B : Nat} {t : TypeId} {s n c g : Nat} {xs : List Value} (h : W.ownsRow B t s (.slice (some ⟨g, 0, none⟩) n c) n xs) : n ≤ c ∧ c ≤ maxLen := by
  rcases h.2 with ⟨hv, _⟩ | ⟨g', cap, cur, hv, hb, hh, hn, hm, _⟩
  · simp at hv
  · simp only [Value.slice.injEq] at hv
    obtain ⟨_, _, rfl⟩ := hv
    exact ⟨hn, hm⟩
theorem src_sub {W : World} {g size : Nat} {vs : List Value} (h : CellsAt W g vs) (i m : Nat) (ad : Addr) (had : 0 < m → ad = ⟨g, i * size, none⟩) (hm : (i + m) * size ≤ vs.length) (cc : Nat) : Src W size (.slice (some ad) m cc) m ((vs.drop (i * size)).take (m * size)) := by
  have e : (i + m) * size = i * size + m * size := Nat.add_mul _ _ _
  have hl : ((vs.drop (i * size)).take (m * size)).length = m * size := by rw [List.length_take, List.length_drop]; omega
  refine .inr ⟨ad, cc, rfl, hl, fun j u hu => ?_⟩
  have hj := (List.getElem?_eq_some_iff.mp hu).1
  rw [hl] at hj
  rw [List.getElem?_take_of_lt hj, List.getElem?_drop] at hu
  have h0 : 0 < m := by
    rcases Nat.eq_zero_or_pos m with rfl | h
    · simp at hj
    · exact h
  rw [had h0, add_none]
  exact h _ _ hu
theorem rgsV_take (l : List Rg) (k : Nat) : rgsV (l.take k) = (rgsV l).take (k * 2) := by
  induction l generalizing k with
  | nil => simp [rgsV]
  | cons x l ih => cases k with
    | zero => simp [rgsV]
    | succ k =>
      show _ :: _ :: rgsV (l.take k) = (_ :: _ :: rgsV l).take ((k + 1) * 2)
      rw [show (k + 1) * 2 = k * 2 + 1 + 1 by omega, List.take_succ_cons, List.take_succ_cons, ih]
theorem rgsV_drop (l : List Rg) (k : Nat) : rgsV (l.drop k) = (rgsV l).drop (k * 2) := by
  induction l generalizing k with
  | nil => simp [rgsV]
  | cons x l ih => cases k with
    | zero => simp
    | succ k =>
      show rgsV (l.drop k) = (_ :: _ :: rgsV l).drop ((k + 1) * 2)
      rw [show (k + 1) * 2 = k * 2 + 1 + 1 by omega, List.drop_succ_cons, List.drop_succ_cons, ih]
theorem ntsV_take (l : List Nt) (k : Nat) : ntsV (l.take k) = (ntsV l).take (k * 4) := by
  induction l generalizing k with
  | nil => simp [ntsV]
  | cons x l ih => cases k with
    | zero => simp [ntsV]
    | succ k =>
      show _ :: _ :: _ :: _ :: ntsV (l.take k) = (_ :: _ :: _ :: _ :: ntsV l).take ((k + 1) * 4)
      rw [show (k + 1) * 4 = k * 4 + 1 + 1 + 1 + 1 by omega, List.take_succ_cons, List.take_succ_cons, List.take_succ_cons, List.take_succ_cons, ih]
theorem ntsV_drop (l : List Nt) (k : Nat) : ntsV (l.drop k) = (ntsV l).drop (k * 4) := by
  induction l generalizing k with
  | nil => simp [ntsV]
  | cons x l ih => cases k with
    | zero => simp
    | succ k =>
      show ntsV (l.drop k) = (_ :: _ :: _ :: _ :: ntsV l).drop ((k + 1) * 4)
      rw [show (k + 1) * 4 = k * 4 + 1 + 1 + 1 + 1 by omega, List.drop_succ_cons, List.drop_succ_cons, List.drop_succ_cons, List.drop_succ_cons, ih]
/-- Both parts of a row, as arguments of append. -/
theorem src_partsR {W : World} {g c k : Nat} {l : List Rg} {ad : Addr} (h : CellsAt W g (rgsV l)) (hk : k + 1 ≤ l.length) (had : k + 1 < l.length → ad = ⟨g, (k + 1) * 2, none⟩) :
    Src W 2 (.slice (some ⟨g, 0, none⟩) k c) k (rgsV (l.take k)) ∧ Src W 2 (.slice (some ad) (l.length - (k + 1)) (c - (k + 1))) (l.length - (k + 1)) (rgsV (l.drop (k + 1))) := by
  have hl := rgsV_len l
  constructor
  · have := src_sub (size := 2) h 0 k ⟨g, 0, none⟩ (fun _ => by simp) (by omega) c
    simpa [rgsV_take] using this
  · have := src_sub h (k + 1) (l.length - (k + 1)) ad (fun h0 => had (by omega)) (by omega) (c - (k + 1))
    rwa [List.take_of_length_le (by rw [List.length_drop]; omega), ← rgsV_drop] at this
theorem src_partsN {W : World} {g c k : Nat} {l : List Nt} {ad : Addr} (h : CellsAt W g (ntsV l)) (hk : k + 1 ≤ l.length) (had : k + 1 < l.length → ad = ⟨g, (k + 1) * 4, none⟩) :
    Src W 4 (.slice (some ⟨g, 0, none⟩) k c) k (ntsV (l.take k)) ∧ Src W 4 (.slice (some ad) (l.length - (k + 1)) (c - (k + 1))) (l.length - (k + 1)) (ntsV (l.drop (k + 1))) := by
  have hl := ntsV_len l
  constructor
  · have := src_sub (size := 4) h 0 k ⟨g, 0, none⟩ (fun _ => by simp) (by omega) c
    simpa [ntsV_take] using this
  · have := src_sub h (k + 1) (l.length - (k + 1)) ad (fun h0 => had (by omega)) (by omega) (c - (k + 1))
    rwa [List.take_of_length_le (by rw [List.length_drop]; omega), ← ntsV_drop] at this
theorem ntsV_app (l m : List Nt) : ntsV (l ++ m) = ntsV l ++ ntsV m := by simp [ntsV]

theorem ok_le {x : No} (h : x.ok) : x.l.length ≤ 3 := by
  rcases h with ⟨_, _, _, _, _, e⟩ | ⟨_, _, _, _, e⟩
  · rw [e]; simp
  · exact e.1
theorem wd_le {t u n : Int} {r : Rn} {sl : List Rg} {gl : List Pk} {dl : List Rg} {ul nl : List Nt} (h : wdP t r u n sl gl dl (ul.map Nt.o) (nl.map Nt.o)) : dl.length ≤ 60 ∧ ul.length ≤ 60 ∧ nl.length ≤ 300 ∧ sl.length ≤ 40 ∧ gl.length ≤ 60 ∧ (∀ x ∈ ul, x.l.length ≤ 3) ∧ ∀ x ∈ nl, x.l.length ≤ 3 := by
  obtain ⟨_, _, ⟨⟨_, _, _, h40, _⟩, _⟩, ⟨⟨h60, _⟩, _⟩, ⟨_, hd⟩, ⟨hu, hus⟩, ⟨hn, hns⟩⟩ := h
  exact ⟨hd, by simpa using hu, by simpa using hn, h40, h60, fun x hx => ok_le (hus _ (List.mem_map.mpr ⟨x, hx, rfl⟩)).2.1, fun x hx => ok_le (hns _ (List.mem_map.mpr ⟨x, hx, rfl⟩))⟩
theorem grown_off {w u u' : World} {r : Option Nat} (h : w.grownBy u none) (hg : u.grownBy u' r) (hr : ∀ b, r = some b → w.heap.size ≤ b) : w.grownBy u' none :=
  ⟨hg.os.trans h.os, hg.tape.trans h.tape, hg.output.trans h.output, Nat.le_trans h.size hg.size, fun k hk _ => (hg.block k (Nat.lt_of_lt_of_le hk h.size) (fun e => by have := hr k e.symm; omega)).trans (h.block k hk (by simp))⟩
theorem x_nt {W : World} {g k : Nat} {l : List Nt} (h : CellsAt W g (ntsV l)) (hk : k < l.length) : NtC W g (k * 4) l[k] := by
  obtain ⟨a, b, c, d⟩ := ntsV_get l k hk
  exact ⟨h _ _ a, h _ _ b, h _ _ c, h _ _ d⟩
theorem x_rg {W : World} {g k : Nat} {l : List Rg} (h : CellsAt W g (rgsV l)) (hk : k < l.length) : W.cell? ⟨g, k * 2, none⟩ = some (.int .i64 (l[k]).1) ∧ W.cell? ⟨g, k * 2 + 1, none⟩ = some (.int .i64 (l[k]).2) :=
  ⟨h _ _ (rgsV_get l k hk).1, h _ _ (rgsV_get l k hk).2⟩
theorem note_f {x : No} (h : x.ok) : 0 ≤ x.f ∧ x.f ≤ 1000000000 := by
  rcases h with ⟨_, h0, h1, _⟩ | ⟨_, h0, h1, _⟩
  · exact ⟨h0, by omega⟩
  · exact ⟨h0, by omega⟩
/-- What a step of a right world answers. -/
def DoPost (w : World) (X : List Nat) (e : Ending) (w' : World) : Prop :=
  ∃ (V : Wv) (k : Int), e = .returned (.tuple #[V.v, .int .i64 k]) ∧ V.At w' w.heap.size X ∧ w.grownBy w' none ∧ V.le 400 400 400

end Go.Proofs.Ytedhemllgpbheaa

