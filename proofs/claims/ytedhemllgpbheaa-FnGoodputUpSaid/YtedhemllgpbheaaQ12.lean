/- BdLs BdC BdT BdX BdK RwM Rw RwP BdM BdN -/
import Derived.Test.YtedhemllgpbheaaQ5
namespace Go.Proofs.Ytedhemllgpbheaa
open Go.RowKit

abbrev OwnRg (w : World) (B : Nat) (a : Option Addr) (c : Nat) (l : List Rg) : Prop := w.ownsRow B 44 2 (.slice a l.length c) l.length (rgsV l)

theorem Mine.keptR {w a b : World} {r : Option Nat} {cs : List (Addr × Value)} (h : Mine w cs a) (hg : a.grownBy b r) (hw : w.grownBy b none) (hr : ∀ g, r = some g → ∀ x ∈ cs, x.1.block ≠ g) : Mine w cs b := by
  refine ⟨hw, fun x hx => ?_⟩
  obtain ⟨h1, h2, h3, h4⟩ := h.all x hx
  have hne : some x.1.block ≠ r := fun e => hr _ e.symm x hx rfl
  refine ⟨hg.cell h1 hne, ?_, h3, h4⟩
  rw [hg.frozen_far x.1 (cell_in h1) hne]
  exact h2
theorem OwnRg.at {w : World} {B : Nat} {a : Option Addr} {c : Nat} {l : List Rg} (h : OwnRg w B a c l) : RgAt w a l := rg_own h

theorem res3_grown {w a : World} {R : Nat} (x y z : Value) (h : w.grownBy a none) (hR : w.heap.size ≤ R) : w.grownBy (((a.setCell ⟨R, 0, none⟩ x).setCell ⟨R, 1, none⟩ y).setCell ⟨R, 2, none⟩ z) none :=
  grownBy_new h (grownBy_trans (grownBy_trans (grownBy_set _ _ _ _) (grownBy_set _ _ _ _)) (grownBy_set _ _ _ _)) hR

end Go.Proofs.Ytedhemllgpbheaa

namespace Go.Proofs.Ytedhemllgpbheaa
open Go.RowKit

/-- A slice whose cells are those of pieces. -/
def SlAt (w : World) (s : Value) (l : List Rg) : Prop :=
  (s = .slice none 0 0 ∧ l = []) ∨ ∃ (ad : Addr) (c : Nat), s = .slice (some ad) l.length c ∧ ∀ j u, (rgsV l)[j]? = some u → w.cell? (ad.add j) = some u

theorem SlAt.kept {w w' : World} {s : Value} {l : List Rg} (h : SlAt w s l) (hg : w.grownBy w' none) : SlAt w' s l := by
  rcases h with h | ⟨ad, c, hs, hc⟩
  · exact .inl h
  · exact .inr ⟨ad, c, hs, fun j u hu => hg.cell (hc j u hu) (by simp)⟩

theorem rgsV_one : ∀ (l : List Rg), ∀ u ∈ rgsV l, u.oneCell' = true
  | [], u, h => by simp [rgsV] at h
  | p :: l, u, h => by
    have e : rgsV (p :: l) = .int .i64 p.1 :: .int .i64 p.2 :: rgsV l := rfl
    rw [e] at h
    rcases List.mem_cons.mp h with rfl | h
    · simp [Value.oneCell']
    · rcases List.mem_cons.mp h with rfl | h
      · simp [Value.oneCell']
      · exact rgsV_one l u h

theorem rgsV_app (l m : List Rg) : rgsV (l ++ m) = rgsV l ++ rgsV m := by simp [rgsV]

theorem SlAt.len {w : World} {s : Value} {l : List Rg} (h : SlAt w s l) : ∃ ad c, s = .slice ad l.length c ∧ (ad = none → c = 0 ∧ l = []) := by
  rcases h with ⟨rfl, rfl⟩ | ⟨ad, c, hs, _⟩
  · exact ⟨none, 0, rfl, fun _ => ⟨rfl, rfl⟩⟩
  · exact ⟨some ad, c, hs, fun e => by cases e⟩

def CcPost (w : World) (l : List Rg) (e : Ending) (w' : World) : Prop :=
  ∃ v, e = .returned v ∧ w.grownBy w' none ∧ w'.ownsRow w.heap.size 44 2 v l.length (rgsV l)

theorem rgsV_at (l : List Rg) (j : Nat) (u : Value) (h : (rgsV l)[j]? = some u) : ∃ i, ∃ hi : i < l.length, (j = i * 2 ∧ u = .int .i64 (l[i]).1) ∨ (j = i * 2 + 1 ∧ u = .int .i64 (l[i]).2) := by
  have hj : j < l.length * 2 := by
    have := (List.getElem?_eq_some_iff.mp h).1
    rwa [rgsV_len] at this
  refine ⟨j / 2, by omega, ?_⟩
  obtain ⟨h0, h1⟩ := rgsV_get l (j / 2) (by omega)
  rcases Nat.mod_two_eq_zero_or_one j with hm | hm
  · left
    have e : j = j / 2 * 2 := by omega
    refine ⟨e, ?_⟩
    rw [← e, h] at h0
    exact Option.some.inj h0
  · right
    have e : j = j / 2 * 2 + 1 := by omega
    refine ⟨e, ?_⟩
    rw [← e, h] at h1
    exact Option.some.inj h1

/-- A slice of pieces as an argument: its cells, and room up to its capacity. -/
def RowOk (w : World) (a : Option Addr) (c : Nat) (l : List Rg) : Prop :=
  (a = none ∧ c = 0 ∧ l = []) ∨ ∃ b off, a = some ⟨b, off, none⟩ ∧ l.length ≤ c ∧ c ≤ 9223372036854775807 ∧ ∀ i (h : i < l.length), w.cell? ⟨b, off + i * 2, none⟩ = some (.int .i64 (l[i]).1) ∧ w.cell? ⟨b, off + i * 2 + 1, none⟩ = some (.int .i64 (l[i]).2)

theorem RowOk.kept {w w' : World} {a : Option Addr} {c : Nat} {l : List Rg} (h : RowOk w a c l) (hg : w.grownBy w' none) : RowOk w' a c l := by
  rcases h with h | ⟨b, off, ha, hc, hm, hi⟩
  · exact .inl h
  · exact .inr ⟨b, off, ha, hc, hm, fun i h => ⟨hg.cell (hi i h).1 (by simp), hg.cell (hi i h).2 (by simp)⟩⟩

theorem RowOk.cells {w : World} {b off c : Nat} {l : List Rg} (h : RowOk w (some ⟨b, off, none⟩) c l) (i : Nat) (hi : i < l.length) : w.cell? ⟨b, off + i * 2, none⟩ = some (.int .i64 (l[i]).1) ∧ w.cell? ⟨b, off + i * 2 + 1, none⟩ = some (.int .i64 (l[i]).2) := by
  rcases h with ⟨h, _⟩ | ⟨b', off', ha, _, _, hc⟩
  · cases h
  · cases ha; exact hc i hi

theorem step_append_own {P : Program} {w : World} {ops : Array Oper} {o : Oper} {a : Act} {K : Act → World → Prop} {Q : Exit → Act → World → Prop} {E : Prop} (hgd : o.guard = none) (s x : Operand) (t : TypeId)
    (ho : o.op = .call { callee := .builtin .append, args := #[s, x], argTypes := #[t, t] })
    (base : Nat) (e : TypeId) (i : TypeInfo) (z : Value) (size bytes : Nat) (ht : P.underlying t = some (.slice e)) (hi : P.info? e = some i) (hz : i.zero = some z)
    (hsize : i.size = size) (hby : i.bytes = bytes) (hzs : z.cells.size = size) (hsz : 0 < size)
    (v : Value) (n : Nat) (xs : List Value) (hs : a.eval s = v) (hown : w.ownsRow base e size v n xs)
    (ad : Addr) (m c : Nat) (news : List Value) (hx : a.eval x = .slice (some ad) m c) (hl : news.length = m * size) (hnews : ∀ j u, news[j]? = some u → w.cell? (ad.add j) = some u) (h1 : ∀ u ∈ news, u.oneCell' = true)
    (h63 : n + m ≤ maxLen) (hbytes : (n + m) * bytes ≤ 140737488355328) (hbase : base ≤ w.heap.size)
    (h : ∀ v' w', w'.ownsRow base e size v' (n + m) (xs ++ news) → w.grownBy w' v.ownBlock → K (a.put o.dst v') w') :
    if Region.wanted o (yielded ops a.tmps) = true then Oper.wp P o a w K Q else E := by
  have hw : Region.wanted o (yielded ops a.tmps) = true := by simp [Region.wanted, hgd]
  rw [if_pos hw]
  exact wp_append_own w s x t ho base e i z size bytes ht hi hz hsize hby hzs hsz v n xs hs hown ad m c news hx hl hnews h1 h63 hbytes hbase fun v' w' h2 h3 _ => h v' w' h2 h3
theorem step_append_nil {P : Program} {w : World} {ops : Array Oper} {o : Oper} {a : Act} {K : Act → World → Prop} {Q : Exit → Act → World → Prop} {E : Prop} (hgd : o.guard = none) (s x : Operand) (t : TypeId)
    (ho : o.op = .call { callee := .builtin .append, args := #[s, x], argTypes := #[t, t] })
    (base : Nat) (e : TypeId) (i : TypeInfo) (size : Nat) (ht : P.underlying t = some (.slice e)) (hi : P.info? e = some i)
    (v : Value) (n : Nat) (xs : List Value) (hs : a.eval s = v) (hown : w.ownsRow base e size v n xs) (hx : a.eval x = .slice none 0 0)
    (h : ∀ v' w', w'.ownsRow base e size v' n xs → w.grownBy w' none → K (a.put o.dst v') w') :
    if Region.wanted o (yielded ops a.tmps) = true then Oper.wp P o a w K Q else E := by
  have hw : Region.wanted o (yielded ops a.tmps) = true := by simp [Region.wanted, hgd]
  rw [if_pos hw]
  have hrun := run_append_owned_none (P := P) (w := w) base t o.type e i size ht hi v n xs hown
  unfold Oper.wp
  simp [execOp, ho, resolve, invoke, builtin, hs, hx, hrun, Result.andThen]
  exact h _ _ hown (World.grownBy.refl _ _)
theorem row_empty (w : World) (T : TypeId) (s B : Nat) (hB : B ≤ w.heap.size) : (w.alloc (.cells #[] T)).ownsRow B T s (.slice (some ⟨w.heap.size, 0, none⟩) 0 0) 0 [] :=
  ⟨by simp, .inr ⟨w.heap.size, 0, #[], rfl, hB, (by show (w.heap.push (Obj.cells #[] T))[w.heap.size]? = _; simp), Nat.le_refl _, by unfold maxLen; omega, by simp, by simp⟩⟩
theorem row_cells {w : World} {b off c : Nat} {l : List Rg} (h : RowOk w (some ⟨b, off, none⟩) c l) : ∀ j u, (rgsV l)[j]? = some u → w.cell? ((⟨b, off, none⟩ : Addr).add j) = some u := fun j u hu => by
  obtain ⟨i, hi, hh⟩ := rgsV_at _ j u hu
  obtain ⟨c0, c1⟩ := h.cells i hi
  rw [add_none]
  rcases hh with ⟨rfl, rfl⟩ | ⟨rfl, rfl⟩
  · exact c0
  · exact c1
theorem own_rowOk {w : World} {B c : Nat} {a : Option Addr} {l : List Rg} (h : OwnRg w B a c l) : RowOk w a c l := by
  rcases h.2 with ⟨hv, h0⟩ | ⟨g, cap, cur, hv, hb, hh, hn, hm, _⟩
  · simp only [Value.slice.injEq] at hv
    exact .inl ⟨hv.1, hv.2.2, List.length_eq_zero_iff.mp h0⟩
  · simp only [Value.slice.injEq] at hv
    obtain ⟨rfl, _, rfl⟩ := hv
    refine .inr ⟨g, 0, rfl, hn, by unfold maxLen at hm; omega, fun i hi => ?_⟩
    obtain ⟨x, y⟩ := rgsV_get l i hi
    rw [Nat.zero_add, h.cellAt (i * 2) (by omega), h.cellAt (i * 2 + 1) (by omega)]
    exact ⟨x, y⟩
theorem RowOk.at {w : World} {a : Option Addr} {c : Nat} {l : List Rg} (h : RowOk w a c l) : RgAt w a l := by
  rcases h with ⟨_, _, h⟩ | ⟨b, off, ha, hc, hm, hi⟩
  · exact .inl h
  · by_cases h0 : l.length = 0
    · exact .inl (List.length_eq_zero_iff.mp h0)
    · exact .inr ⟨b, off, ha, cell_in (hi 0 (by omega)).1, hi⟩

theorem own_setB {w : World} {B C o c : Nat} {a : Option Addr} {v : Value} {l : List Rg} (h : OwnRg w B a c l) (hne : C < B) : OwnRg (w.setCell ⟨C, o, none⟩ v) B a c l := by
  refine h.kept (grownBy_set w C o v) ?_
  cases hv : Value.ownBlock (.slice a l.length c) with
  | none => exact .inl rfl
  | some g =>
    refine .inr fun e => ?_
    have := (h.lt g hv).1
    simp at e
    omega
def CopyPost (w : World) (u n : Int) (l : List Rg) (e : Ending) (w' : World) : Prop :=
  ∃ a c, e = .returned (bdV u n a l.length c) ∧ w.grownBy w' none ∧ OwnRg w' w.heap.size a c l
theorem bd_two (w : World) (x y z x' y' z' : Value) (T U : TypeId) : Mine w (bdCells w.heap.size x y z ++ bdCells (w.heap.size + 1) x' y' z') ((w.alloc (.cells #[x, y, z] T)).alloc (.cells #[x', y', z'] U)) := by
  have h1 := bd_new w x y z T
  have e1 := alloc_size w (.cells #[x, y, z] T)
  generalize w.alloc (.cells #[x, y, z] T) = w1 at *
  have h2 := bd_new w1 x' y' z' U
  have h2b := h2.base h1.grown
  rw [e1] at h2b
  have j1 := h1.kept h2.grown
  refine ⟨j1.grown, fun x hx => ?_⟩
  rcases List.mem_append.mp hx with hx | hx
  · exact j1.all x hx
  · exact h2b.all x hx

set_option maxRecDepth 100000 in
set_option maxHeartbeats 4000000 in
theorem copy_any (u n : Int) (a : Option Addr) (c : Nat) (l : List Rg) (w : World) (h : RowOk w a c l) (hl : l.length ≤ 1000) :
    Calls Try.prog 44 #[bdV u n a l.length c] w (CopyPost w u n l) := by
  obtain ⟨i0, hi, hz0, hz1, hz2⟩ := info_of infoRg
  have hM := bd_two w (.int .i64 u) (.int .i64 n) (.slice a l.length c) (.int .i64 0) (.int .i64 0) (.slice none 0 0) 50 50
  have hz : ((w.alloc (.cells #[.int .i64 u, .int .i64 n, .slice a l.length c] 50)).alloc (.cells #[.int .i64 0, .int .i64 0, .slice none 0 0] 50)).heap.size = w.heap.size + 1 + 1 := by rw [alloc_size, alloc_size]
  have HM := Lib.hid (And.intro hM (And.intro (h.kept hM.grown) hz))
  clear hM hz
  rcases h with ⟨rfl, rfl, rfl⟩ | ⟨b, off, rfl, hc, hm, hcs⟩
  · go_enter Try.func44, Try.ntmps44
    go_wp2_with fail
    generalize (w.alloc (.cells #[.int .i64 u, .int .i64 n, .slice none 0 0] 50)).alloc (.cells #[.int .i64 0, .int .i64 0, .slice none 0 0] 50) = w2 at *
    obtain ⟨b0, b1, b2⟩ := bd_facts HM.out.1.left
    obtain ⟨r0, r1, r2⟩ := bd_facts HM.out.1.right
    obtain ⟨f0, f1, f2⟩ := bd_frees HM.out.1.right
    have hB0 : w.heap.size < w2.heap.size := cell_in b0
    have hB1 : w.heap.size + 1 < w2.heap.size := cell_in r0
    have hg2 : w2.grownBy (w2.alloc (.cells #[] 44)).drew none := grownBy_trans (World.grownBy_alloc _ _ _) grownBy_drew
    have HG2 := Lib.hid hg2
    clear hg2
    have HO := Lib.hid (fun h => World.ownsRow.kept (row_empty w2 44 2 w2.heap.size h) (grownBy_drew (r := none)) (by simp [Value.ownBlock]))
    go_region_held3 (fun w' => w'.cell? ⟨w.heap.size, 0, none⟩ = some (.int .i64 u) ∧ w'.cell? ⟨w.heap.size, 1, none⟩ = some (.int .i64 n) ∧ w'.cell? ⟨w.heap.size, 2, none⟩ = some (.slice none 0 0)) ((refine ⟨by first | with_reducible assumption | (go_simp; done) | (simp [*]; done), by first | with_reducible assumption | (go_simp; done) | (simp [*]; done), by first | with_reducible assumption | (go_simp; done) | (simp [*]; done)⟩))
      ((refine step_append_nil (by rfl) _ _ _ (by rfl) w2.heap.size 44 i0 2 Try.underlying31 hi _ 0 [] (by rfl) (HO.out (Nat.le_refl _)) (by rfl) ?_; intro v' w3 hown1 hgrow; obtain ⟨ao, cc, rfl⟩ := own_slice hown1; have hM3 := (HM.out.1.kept HG2.out).kept hgrow; obtain ⟨q0, q1, q2⟩ := bd_facts hM3.left; obtain ⟨t0, t1, t2⟩ := bd_facts hM3.right; obtain ⟨y0, y1, y2⟩ := bd_frees hM3.right; have HF := Lib.hid (And.intro hM3 hown1)))
    go_wp2_with fail
    have hgr := res3_grown (R := w.heap.size + 1) (.int .i64 u) (.int .i64 n) (.slice ao 0 cc) HF.out.1.grown (by omega)
    have hap : w.heap.size + 1 < w2.heap.size := hB1
    refine bodyPost_ret (v := bdV u n ao 0 cc) ?_ rfl ⟨ao, cc, rfl, hgr, ?_⟩
    · simp [results, Try.results44, go_sem, t0, t1, t2]
    · exact own_base (own_setB (l := []) (own_setB (l := []) (own_setB (l := []) HF.out.2 hap) hap) hap) HM.out.1.grown.size
  · go_enter Try.func44, Try.ntmps44
    go_wp2_with fail
    generalize (w.alloc (.cells #[.int .i64 u, .int .i64 n, .slice (some ⟨b, off, none⟩) l.length c] 50)).alloc (.cells #[.int .i64 0, .int .i64 0, .slice none 0 0] 50) = w2 at *
    obtain ⟨b0, b1, b2⟩ := bd_facts HM.out.1.left
    obtain ⟨r0, r1, r2⟩ := bd_facts HM.out.1.right
    obtain ⟨f0, f1, f2⟩ := bd_frees HM.out.1.right
    have hB0 : w.heap.size < w2.heap.size := cell_in b0
    have hB1 : w.heap.size + 1 < w2.heap.size := cell_in r0
    have HC := Lib.hid (row_cells (show RowOk w2 (some ⟨b, off, none⟩) c l from HM.out.2.1))
    have hg2 : w2.grownBy (w2.alloc (.cells #[] 44)).drew none := grownBy_trans (World.grownBy_alloc _ _ _) grownBy_drew
    have HG2 := Lib.hid hg2
    clear hg2
    have HO := Lib.hid (fun h => World.ownsRow.kept (row_empty w2 44 2 w2.heap.size h) (grownBy_drew (r := none)) (by simp [Value.ownBlock]))
    go_region_held3 (fun w' => w'.cell? ⟨w.heap.size, 0, none⟩ = some (.int .i64 u) ∧ w'.cell? ⟨w.heap.size, 1, none⟩ = some (.int .i64 n) ∧ w'.cell? ⟨w.heap.size, 2, none⟩ = some (.slice (some ⟨b, off, none⟩) l.length c)) ((refine ⟨by first | with_reducible assumption | (go_simp; done) | (simp [*]; done), by first | with_reducible assumption | (go_simp; done) | (simp [*]; done), by first | with_reducible assumption | (go_simp; done) | (simp [*]; done)⟩))
      ((refine step_append_own (by rfl) _ _ _ (by rfl) w2.heap.size 44 i0 _ 2 16 Try.underlying31 hi hz0 hz1 hz2 rfl (by decide) _ 0 [] (by rfl) (HO.out (Nat.le_refl _)) ⟨b, off, none⟩ l.length c (rgsV l) (by rfl) (rgsV_len l) (fun j u hu => HG2.out.cell (HC.out j u hu) (by simp)) (rgsV_one l) (by unfold maxLen; omega) (by omega) HG2.out.size ?_; intro v' w3 hown1 hgrow; obtain ⟨ao, cc, rfl⟩ := own_slice hown1; have hM3 := (HM.out.1.kept HG2.out).keptR hgrow (grow_own (grownBy_trans HM.out.1.grown HG2.out) hgrow (HO.out (Nat.le_refl _)) HM.out.1.grown.size) (fun g hgg x hx => by simp [Value.ownBlock] at hgg; subst hgg; simp [bdCells] at hx; rcases hx with rfl | rfl | rfl | rfl | rfl | rfl <;> simp <;> omega); obtain ⟨q0, q1, q2⟩ := bd_facts hM3.left; obtain ⟨t0, t1, t2⟩ := bd_facts hM3.right; obtain ⟨y0, y1, y2⟩ := bd_frees hM3.right; have HF := Lib.hid (And.intro hM3 hown1)))
    simp only [Nat.zero_add, List.nil_append] at HF
    go_wp2_with fail
    have hgr := res3_grown (R := w.heap.size + 1) (.int .i64 u) (.int .i64 n) (.slice ao l.length cc) HF.out.1.grown (by omega)
    have hap : w.heap.size + 1 < w2.heap.size := hB1
    refine bodyPost_ret (v := bdV u n ao l.length cc) ?_ rfl ⟨ao, cc, rfl, hgr, ?_⟩
    · simp [results, Try.results44, go_sem, t0, t1, t2]
    · exact own_base (own_setB (own_setB (own_setB HF.out.2 hap) hap) hap) HM.out.1.grown.size

end Go.Proofs.Ytedhemllgpbheaa

namespace Go.Proofs.Ytedhemllgpbheaa
open Go.RowKit

def BdPost (w : World) (r : Int × Int × List Rg × Bool) (e : Ending) (w' : World) : Prop :=
  ∃ a c, e = .returned (.tuple #[bdV r.1 r.2.1 a r.2.2.1.length c, .bool r.2.2.2]) ∧ w.grownBy w' none ∧ OwnRg w' w.heap.size a c r.2.2.1
theorem bd_as {w w' : World} {r s : Int × Int × List Rg × Bool} {e : Ending} (h : r = s) (k : BdPost w s e w') : BdPost w r e w' := by rw [h]; exact k
abbrev noBd : Int × Int × List Rg × Bool := (0, 0, [], false)
theorem own_none (w : World) (B : Nat) : OwnRg w B none 0 [] := World.ownsRow_nil _ _ _ _

end Go.Proofs.Ytedhemllgpbheaa

namespace Go.Proofs.Ytedhemllgpbheaa
open Go.RowKit

theorem Mine.app {w a : World} {cs ds : List (Addr × Value)} (h : Mine w cs a) (k : Mine w ds a) : Mine w (cs ++ ds) a :=
  ⟨h.grown, fun x hx => (List.mem_append.mp hx).elim (h.all x) (k.all x)⟩
theorem mark_mine {w a wm b : World} {cs : List (Addr × Value)} {v : Value} (h : Mine w cs a) (hm : a.grownBy wm none) (hg : wm.grownBy b v.ownBlock) (hv : ∀ g, v.ownBlock = some g → w.heap.size ≤ g ∧ ∀ x ∈ cs, x.1.block ≠ g) : Mine w cs b := by
  have h1 := h.kept hm
  refine h1.keptR hg ?_ (fun g e x hx => (hv g e).2 x hx)
  cases hv' : v.ownBlock with
  | none => rw [hv'] at hg; exact grownBy_trans h1.grown hg
  | some g => rw [hv'] at hg; exact grownBy_new h1.grown hg (hv g hv').1
theorem mark_own {a wm b : World} {B c : Nat} {a' : Option Addr} {l : List Rg} {v : Value} (h : OwnRg a B a' c l) (hm : a.grownBy wm none) (hg : wm.grownBy b v.ownBlock) (hne : ∀ g, v.ownBlock = some g → ∀ g', Value.ownBlock (.slice a' l.length c) = some g' → g' ≠ g) : OwnRg b B a' c l := by
  refine (own_kept h hm).kept hg ?_
  cases hu : Value.ownBlock (.slice a' l.length c) with
  | none => exact .inl rfl
  | some g' => exact .inr fun e => hne g' e.symm g' hu rfl
theorem bd_far {B g : Nat} {x y z : Value} (h : B ≠ g) : ∀ p ∈ bdCells B x y z, p.1.block ≠ g := by
  intro p hp
  simp only [bdCells, List.mem_cons, List.not_mem_nil, or_false] at hp
  rcases hp with rfl | rfl | rfl <;> exact h
end Go.Proofs.Ytedhemllgpbheaa

namespace Go.Proofs.Ytedhemllgpbheaa
open Go.RowKit

def cutB (p : Int) (x : Rg) : List Rg := hole (if x.1 < p + 1 then p + 1 else x.1) x.2
def beyF (p : Int) : List Rg → List Rg
  | [] => []
  | x :: l => cutB p x ++ beyF p l
theorem cutB_len (p : Int) (x : Rg) : (cutB p x).length ≤ 1 := hole_len _ _
theorem beyF_len (p : Int) : ∀ l : List Rg, (beyF p l).length ≤ l.length
  | [] => by simp [beyF]
  | x :: l => by
    have h1 := cutB_len p x
    have h2 := beyF_len p l
    rw [beyF, List.length_append, List.length_cons]
    omega
noncomputable def ackL (u n : Int) (l : List Rg) (k : Int) : Int × Int × List Rg × Bool := if bdOk u n l = true ∧ u ≤ k ∧ k ≤ n then (k, n, beyF k l, true) else noBd
theorem ackL_len (u n : Int) (l : List Rg) (k : Int) : (ackL u n l k).2.2.1.length ≤ 40 := by
  unfold ackL
  split
  · rename_i h
    have h1 := (bd_of h.1).2.2.2.1
    have h2 := beyF_len k l
    show (beyF k l).length ≤ 40
    omega
  · simp

theorem bd_put {w a : World} {cs : List (Addr × Value)} {B : Nat} {x y z : Value} (h : Mine w (cs ++ bdCells B x y z) a) (hd : ∀ p ∈ cs, p.1.block ≠ B) :
    (∀ v, Mine w (cs ++ bdCells B v y z) (a.setCell ⟨B, 0, none⟩ v)) ∧ (∀ v, Mine w (cs ++ bdCells B x v z) (a.setCell ⟨B, 1, none⟩ v)) ∧ ∀ v, Mine w (cs ++ bdCells B x y v) (a.setCell ⟨B, 2, none⟩ v) := by
  have hcs : ∀ (o : Nat) (v : Value), cs.map (fun q => (q.1, if (⟨B, o, none⟩ : Addr) = q.1 then v else q.2)) = cs := by
    intro o v
    conv => rhs; rw [← List.map_id cs]
    refine List.map_congr_left (fun q hq => ?_)
    have := hd q hq
    rw [if_neg]
    · rfl
    · intro e
      rw [← e] at this
      exact this rfl
  refine ⟨fun v => ?_, fun v => ?_, fun v => ?_⟩
  · have := h.set ⟨B, 0, none⟩ x v (List.mem_append_right _ (by simp [bdCells]))
    rw [List.map_append, hcs] at this
    simpa [bdCells] using this
  · have := h.set ⟨B, 1, none⟩ y v (List.mem_append_right _ (by simp [bdCells]))
    rw [List.map_append, hcs] at this
    simpa [bdCells] using this
  · have := h.set ⟨B, 2, none⟩ z v (List.mem_append_right _ (by simp [bdCells]))
    rw [List.map_append, hcs] at this
    simpa [bdCells] using this
theorem two_far {A B g : Nat} {x y z x' y' z' : Value} (h1 : A ≠ g) (h2 : B ≠ g) : ∀ p ∈ bdCells A x y z ++ bdCells B x' y' z', p.1.block ≠ g := by
  intro p hp
  rcases List.mem_append.mp hp with hp | hp
  · exact bd_far h1 p hp
  · exact bd_far h2 p hp

theorem three_far {A B C g : Nat} {x y z x' y' z' u v t : Value} (h1 : A ≠ g) (h2 : B ≠ g) (h3 : C ≠ g) : ∀ p ∈ bdCells A x y z ++ bdCells B x' y' z' ++ bdCells C u v t, p.1.block ≠ g := by
  intro p hp
  rcases List.mem_append.mp hp with hp | hp
  · exact two_far h1 h2 p hp
  · exact bd_far h3 p hp
def AkRel (w : World) (S3 S6 O : Nat) (u n : Int) (a : Option Addr) (c : Nat) (l : List Rg) (k : Int) (ao : Option Addr) (cc : Nat) (v i : Value) (wr : World) : Prop :=
  ∃ (j : Nat) (hs : List Rg), j ≤ l.length ∧ i = .int .i64 j ∧ Mine w (bdCells w.heap.size (.int .i64 u) (.int .i64 n) (.slice a l.length c) ++ bdCells (w.heap.size + 1) (.int .i64 0) (.int .i64 0) (.slice none 0 0) ++ bdCells O (.int .i64 k) (.int .i64 n) (.slice ao l.length cc)) wr ∧ OwnRg wr S3 ao cc l ∧ wr.ownsRow S6 44 2 v hs.length (rgsV hs) ∧ hs ++ beyF k (l.drop j) = beyF k l ∧ hs.length ≤ j ∧ S6 ≤ wr.heap.size

set_option maxRecDepth 100000 in
set_option maxHeartbeats 4000000 in
theorem ack_spec (u n : Int) (a : Option Addr) (c : Nat) (l : List Rg) (k : Int) (w : World) (h : RowOk w a c l) (hl0 : l.length ≤ 9223372036854775807) :
    Calls Try.prog 52 #[bdV u n a l.length c, .int .i64 k] w (BdPost w (ackL u n l k)) := by
  obtain ⟨i0, hi, hz0, hz1, hz2⟩ := info_of infoRg
  have hM := bd_two w (.int .i64 u) (.int .i64 n) (.slice a l.length c) (.int .i64 0) (.int .i64 0) (.slice none 0 0) 50 50
  have HM := Lib.hid (And.intro hM (h.kept hM.grown))
  clear hM h
  have hend : (¬ (bdOk u n l = true ∧ u ≤ k ∧ k ≤ n)) → ackL u n l k = noBd := fun h => if_neg h
  have HE := Lib.hid hend
  clear hend
  cases hok : bdOk u n l
  · have HN := Lib.hid (HE.out (by rw [hok]; simp))
    have HK := Lib.hid hok
    clear hok
    go_enter Try.func52, Try.ntmps52
    go_wp2_with fail
    refine (bd_ok_spec _ _ _ _ _ _ HM.out.2.at hl0).mono ?_
    rintro e w3 ⟨rfl, hg⟩
    rw [HK.out]
    have H3 := Lib.hid (HM.out.1.kept hg)
    clear hg
    obtain ⟨b0, b1, b2⟩ := bd_facts H3.out.left
    obtain ⟨r0, r1, r2⟩ := bd_facts H3.out.right
    obtain ⟨f0, f1, f2⟩ := bd_frees H3.out.right
    go_wp2_with fail
    have hgr := res3_grown (R := w.heap.size + 1) (.int .i64 0) (.int .i64 0) (.slice none 0 0) H3.out.grown (by omega)
    refine bodyPost_ret (v := .tuple #[bdV 0 0 none 0 0, .bool false]) ?_ rfl (bd_as HN.out ⟨none, 0, rfl, hgr, own_none _ _⟩)
    simp [results, Try.results52, go_sem, r0, r1, r2]
  · have hp := bd_of hok
    have hn := hp.2.2.1
    have hu0 := hp.1
    have hl := hp.2.2.2.1
    have HK := Lib.hid hok
    clear hok hp
    cases hk : inB k u n
    · have HN := Lib.hid (HE.out (fun h => in_not hk h.2))
      have HI := Lib.hid hk
      clear hk
      go_enter Try.func52, Try.ntmps52
      go_wp2_with fail
      refine (bd_ok_spec _ _ _ _ _ _ HM.out.2.at hl0).mono ?_
      rintro e w3 ⟨rfl, hg⟩
      rw [HK.out]
      have H3 := Lib.hid (HM.out.1.kept hg)
      clear hg
      obtain ⟨b0, b1, b2⟩ := bd_facts H3.out.left
      obtain ⟨r0, r1, r2⟩ := bd_facts H3.out.right
      obtain ⟨f0, f1, f2⟩ := bd_frees H3.out.right
      go_wp2_with (go_at_call 21; refine (in_any _ _ _ _).mono ?_; rintro e w' ⟨rfl, rfl⟩; rw [HI.out])
      have hgr := res3_grown (R := w.heap.size + 1) (.int .i64 0) (.int .i64 0) (.slice none 0 0) H3.out.grown (by omega)
      refine bodyPost_ret (v := .tuple #[bdV 0 0 none 0 0, .bool false]) ?_ rfl (bd_as HN.out ⟨none, 0, rfl, hgr, own_none _ _⟩)
      simp [results, Try.results52, go_sem, r0, r1, r2]
    · have HN := Lib.hid (show ackL u n l k = (k, n, beyF k l, true) from if_pos ⟨HK.out, in_of hk⟩)
      have hk' := in_of hk
      have HI := Lib.hid hk
      clear hk
      have hw1 : IntKind.i64.wrap (k + 1) = k + 1 := IntWalk.i64_in _ (by omega)
      go_enter Try.func52, Try.ntmps52
      go_wp2_with fail
      refine (bd_ok_spec _ _ _ _ _ _ HM.out.2.at hl0).mono ?_
      rintro e w3 ⟨rfl, hg⟩
      rw [HK.out]
      have H3 := Lib.hid (And.intro (HM.out.1.kept hg) (HM.out.2.kept hg))
      clear hg
      obtain ⟨b0, b1, b2⟩ := bd_facts H3.out.1.left
      obtain ⟨r0, r1, r2⟩ := bd_facts H3.out.1.right
      go_wp2_with (go_at_call 21; refine (in_any _ _ _ _).mono ?_; rintro e w' ⟨rfl, rfl⟩; rw [HI.out])
      refine (copy_any _ _ _ _ _ _ H3.out.2 (by omega)).mono ?_
      rintro e w4 ⟨ao, cc, rfl, hg, hown⟩
      have hM4 := H3.out.1.kept hg
      have hO := bd_new w4 (.int .i64 k) (.int .i64 n) (.slice ao l.length cc) 50
      have hlt : w.heap.size + 1 < w4.heap.size := cell_in (bd_facts hM4.right).1
      have hE : ((w4.alloc (.cells #[.int .i64 k, .int .i64 n, .slice ao l.length cc] 50)).alloc (.cells #[] 44)).ownsRow (w4.heap.size + 1) 44 2 (.slice (some ⟨w4.heap.size + 1, 0, none⟩) 0 0) 0 [] := by
        have := row_empty (w4.alloc (.cells #[.int .i64 k, .int .i64 n, .slice ao l.length cc] 50)) 44 2 _ (Nat.le_refl _)
        rw [alloc_size] at this
        exact this
      have hsz : ((w4.alloc (.cells #[.int .i64 k, .int .i64 n, .slice ao l.length cc] 50)).alloc (.cells #[] 44)).heap.size = w4.heap.size + 1 + 1 := by rw [alloc_size, alloc_size]
      have hA6 := World.grownBy_alloc (w4.alloc (.cells #[.int .i64 k, .int .i64 n, .slice ao l.length cc] 50)) (.cells #[] 44) none
      have H6 := Lib.hid (And.intro (((hM4.kept hO.grown).app (hO.base hM4.grown)).kept hA6) (And.intro (own_kept (own_kept hown hO.grown) hA6) (And.intro hE (And.intro hsz (And.intro (show w.heap.size + 1 < w3.heap.size from cell_in (bd_facts H3.out.1.right).1) H3.out.1.grown.size)))))
      have H4R := Lib.hid hown
      have H4S := Lib.hid hg.size
      clear hg hown b0 b1 b2 r0 r1 r2 hM4 hO hE hsz hA6
      go_wp2_with fail
      generalize hw6 : (w4.alloc (.cells #[.int .i64 k, .int .i64 n, .slice ao l.length cc] 50)).alloc (.cells #[] 44) = w6 at *
      clear hw6
      go_loopw [7, 8] (fun v i wr => AkRel w w3.heap.size (w4.heap.size + 1) w4.heap.size u n a c l k ao cc v i wr) (fun _ i _ => l.length - (intOf i).toNat)
      case atStart => exact ⟨0, [], Nat.zero_le _, rfl, H6.out.1, H6.out.2.1, H6.out.2.2.1, by simp, Nat.zero_le _, by have := H6.out.2.2.2.1; omega⟩
      case round =>
        obtain ⟨j, hs, hj, rfl, hm, hrow, hown, hf, hlen, hsz⟩ := hrel
        have HS := Lib.hid (And.intro hm (And.intro hrow (And.intro hown hf)))
        clear hm hrow hown hf
        obtain ⟨b0, b1, b2⟩ := bd_facts HS.out.1.left.left
        obtain ⟨o0, o1, o2⟩ := bd_facts HS.out.1.right
        have hB1 : w4.heap.size < wr.heap.size := cell_in o0
        by_cases hlt2 : j < l.length
        · rcases (rg_own HS.out.2.1) with hn2 | ⟨b, off, rfl, hb, hc⟩
          · rw [hn2] at hlt2
            simp at hlt2
          · obtain ⟨c0, c1⟩ := hc j hlt2
            clear hc
            have hlt' : (j : Int) < (l.length : Int) := by omega
            have HD := Lib.hid (List.drop_eq_getElem_cons hlt2)
            generalize l[j] = x at *
            obtain ⟨f, t⟩ := x
            dsimp only at c0 c1
            have HF := HS.out.2.2.2
            rw [HD.out, beyF, ← List.append_assoc] at HF
            have HM2 := Lib.hid (show ∀ q, (if f < k + 1 then k + 1 else f) = q → (hs ++ hole q t) ++ beyF k (List.drop (j + 1) l) = beyF k l from fun q hq => by rw [← hq]; exact HF)
            clear HF
            have HX := Lib.hid (show ∀ q, (hs ++ hole q t).length ≤ j + 1 from fun q => by have := hole_len q t; rw [List.length_append]; omega)
            have HA := Lib.hid (show ∀ q : Int, Mine w (bdCells w.heap.size (.int .i64 u) (.int .i64 n) (.slice a l.length c) ++ bdCells (w.heap.size + 1) (.int .i64 0) (.int .i64 0) (.slice none 0 0) ++ bdCells w4.heap.size (.int .i64 k) (.int .i64 n) (.slice (some ⟨b, off, none⟩) l.length cc)) (wr.alloc (.cells #[.int .i64 q, .int .i64 t] 44)) ∧ OwnRg (wr.alloc (.cells #[.int .i64 q, .int .i64 t] 44)) w3.heap.size (some ⟨b, off, none⟩) cc l ∧ (wr.alloc (.cells #[.int .i64 q, .int .i64 t] 44)).ownsRow (w4.heap.size + 1) 44 2 u7 hs.length (rgsV hs) ∧ (wr.alloc (.cells #[.int .i64 q, .int .i64 t] 44)).heap.size = wr.heap.size + 1 from fun q => ⟨HS.out.1.kept (World.grownBy_alloc _ _ _), own_kept HS.out.2.1 (World.grownBy_alloc _ _ _), HS.out.2.2.1.alloc _, alloc_size _ _⟩)
            by_cases hq : f < k + 1
            · have hq1 : f ≤ k + 1 := by omega
              have hq2 : ¬ k + 1 ≤ f := by omega
              have hq3 : ¬ k + 1 < f := by omega
              by_cases hqt : k + 1 < t
              · have HE2 := Lib.hid (show hole (k + 1) t = [(k + 1, t)] by rw [hole, if_pos hqt])
                go_wp2_with (at_builtin; refine wpList_append_own _ rfl _ _ 31 rfl (w4.heap.size + 1) 44 i0 _ 2 16 Try.underlying31 hi hz0 hz1 hz2 rfl (by decide) _ _ _ rfl ((HA.out (k + 1)).2.2.1.alloc _) ⟨wr.heap.size + 1, 0, none⟩ 1 1 [.int .i64 (k + 1), .int .i64 t] rfl rfl ?c1 ?c2 ?c3 ?c4 ?c5 ?_)
                try (case c1 => exact pair_new _ _ _ _ _ (HA.out (k + 1)).2.2.2.symm)
                case c2 => simp [Value.oneCell']
                case c3 => unfold maxLen; omega
                case c4 => omega
                case c5 => first | omega | (simp; omega)
                intro v' wz hown1 hg1 _
                have hA2 := (HA.out (k + 1)).2.2.1.alloc (.cells #[.int .i64 (k + 1), .int .i64 t] 44)
                have hgz := World.grownBy_alloc (wr.alloc (.cells #[.int .i64 (k + 1), .int .i64 t] 44)) (.cells #[.int .i64 (k + 1), .int .i64 t] 44) none
                have hmz := mark_mine (HA.out (k + 1)).1 hgz hg1 (fun g e => by
                  have h1 := (hA2.lt g e).1
                  have h2 := HS.out.1.grown.size
                  have h3 := H6.out.2.2.2.2.1
                  exact ⟨by have := H3.out.1.grown.size; omega, three_far (by omega) (by omega) (by omega)⟩)
                have hrz := mark_own (HA.out (k + 1)).2.1 hgz hg1 (fun g e g' e' => by
                  have h1 := (hA2.lt g e).1
                  have h2 := (H4R.out.lt g' e').2
                  omega)
                have HW := Lib.hid (And.intro hmz (And.intro hrz (And.intro (show wz.ownsRow (w4.heap.size + 1) 44 2 v' (hs ++ hole (k + 1) t).length (rgsV (hs ++ hole (k + 1) t)) by rw [HE2.out, rgsV_snoc, List.length_append, List.length_singleton]; exact hown1) (show w4.heap.size + 1 ≤ wz.heap.size by have := hg1.size; have := hgz.size; have := (HA.out (k + 1)).2.2.2; omega))))
                clear hown1 hg1 hA2 hgz hmz hrz
                go_wp2_with fail
                go_roundw
                case rel => exact ⟨j + 1, hs ++ hole (k + 1) t, hlt2, by go_num, HW.out.1, HW.out.2.1, HW.out.2.2.1, HM2.out (k + 1) (by rw [if_pos hq]), HX.out (k + 1), HW.out.2.2.2⟩
                case measure => simp [intOf]; omega
              · have hqt2 : t ≤ k + 1 := by omega
                have HE2 := Lib.hid (show hs ++ hole (k + 1) t = hs by rw [hole, if_neg (by omega)]; simp)
                have HQ2 := Lib.hid (HM2.out (k + 1) (by rw [if_pos hq]))
                go_wp2_with fail
                go_roundw
                case rel => exact ⟨j + 1, hs, hlt2, by go_num, (HA.out (k + 1)).1, (HA.out (k + 1)).2.1, (HA.out (k + 1)).2.2.1, by rw [← HQ2.out, HE2.out], by omega, by have := (HA.out (k + 1)).2.2.2; omega⟩
                case measure => simp [intOf]; omega
            · by_cases hq3 : k + 1 < f
              · have hq1 : k + 1 ≤ f := by omega
                have hq2 : ¬ f < k + 1 := by omega
                have hq4 : ¬ f ≤ k + 1 := by omega
                by_cases hqt : f < t
                · have HE2 := Lib.hid (show hole (f) t = [(f, t)] by rw [hole, if_pos hqt])
                  go_wp2_with (at_builtin; refine wpList_append_own _ rfl _ _ 31 rfl (w4.heap.size + 1) 44 i0 _ 2 16 Try.underlying31 hi hz0 hz1 hz2 rfl (by decide) _ _ _ rfl ((HA.out (f)).2.2.1.alloc _) ⟨wr.heap.size + 1, 0, none⟩ 1 1 [.int .i64 (f), .int .i64 t] rfl rfl ?d1 ?d2 ?d3 ?d4 ?d5 ?_)
                  try (case d1 => exact pair_new _ _ _ _ _ (HA.out (f)).2.2.2.symm)
                  case d2 => simp [Value.oneCell']
                  case d3 => unfold maxLen; omega
                  case d4 => omega
                  case d5 => first | omega | (simp; omega)
                  intro v' wz hown1 hg1 _
                  have hA2 := (HA.out (f)).2.2.1.alloc (.cells #[.int .i64 (f), .int .i64 t] 44)
                  have hgz := World.grownBy_alloc (wr.alloc (.cells #[.int .i64 (f), .int .i64 t] 44)) (.cells #[.int .i64 (f), .int .i64 t] 44) none
                  have hmz := mark_mine (HA.out (f)).1 hgz hg1 (fun g e => by
                    have h1 := (hA2.lt g e).1
                    have h2 := HS.out.1.grown.size
                    have h3 := H6.out.2.2.2.2.1
                    exact ⟨by have := H3.out.1.grown.size; omega, three_far (by omega) (by omega) (by omega)⟩)
                  have hrz := mark_own (HA.out (f)).2.1 hgz hg1 (fun g e g' e' => by
                    have h1 := (hA2.lt g e).1
                    have h2 := (H4R.out.lt g' e').2
                    omega)
                  have HW := Lib.hid (And.intro hmz (And.intro hrz (And.intro (show wz.ownsRow (w4.heap.size + 1) 44 2 v' (hs ++ hole (f) t).length (rgsV (hs ++ hole (f) t)) by rw [HE2.out, rgsV_snoc, List.length_append, List.length_singleton]; exact hown1) (show w4.heap.size + 1 ≤ wz.heap.size by have := hg1.size; have := hgz.size; have := (HA.out (f)).2.2.2; omega))))
                  clear hown1 hg1 hA2 hgz hmz hrz
                  go_wp2_with fail
                  go_roundw
                  case rel => exact ⟨j + 1, hs ++ hole (f) t, hlt2, by go_num, HW.out.1, HW.out.2.1, HW.out.2.2.1, HM2.out (f) (by rw [if_neg (by omega)]), HX.out (f), HW.out.2.2.2⟩
                  case measure => simp [intOf]; omega
                · have hqt2 : t ≤ f := by omega
                  have HE2 := Lib.hid (show hs ++ hole (f) t = hs by rw [hole, if_neg (by omega)]; simp)
                  have HQ2 := Lib.hid (HM2.out (f) (by rw [if_neg (by omega)]))
                  go_wp2_with fail
                  go_roundw
                  case rel => exact ⟨j + 1, hs, hlt2, by go_num, (HA.out (f)).1, (HA.out (f)).2.1, (HA.out (f)).2.2.1, by rw [← HQ2.out, HE2.out], by omega, by have := (HA.out (f)).2.2.2; omega⟩
                  case measure => simp [intOf]; omega
              · obtain rfl : f = k + 1 := by omega
                have hq2 : ¬ k + 1 < k + 1 := by omega
                by_cases hqt : k + 1 < t
                · have HE2 := Lib.hid (show hole (k + 1) t = [(k + 1, t)] by rw [hole, if_pos hqt])
                  go_wp2_with (at_builtin; refine wpList_append_own _ rfl _ _ 31 rfl (w4.heap.size + 1) 44 i0 _ 2 16 Try.underlying31 hi hz0 hz1 hz2 rfl (by decide) _ _ _ rfl ((HA.out (k + 1)).2.2.1.alloc _) ⟨wr.heap.size + 1, 0, none⟩ 1 1 [.int .i64 (k + 1), .int .i64 t] rfl rfl ?e1 ?e2 ?e3 ?e4 ?e5 ?_)
                  try (case e1 => exact pair_new _ _ _ _ _ (HA.out (k + 1)).2.2.2.symm)
                  case e2 => simp [Value.oneCell']
                  case e3 => unfold maxLen; omega
                  case e4 => omega
                  case e5 => first | omega | (simp; omega)
                  intro v' wz hown1 hg1 _
                  have hA2 := (HA.out (k + 1)).2.2.1.alloc (.cells #[.int .i64 (k + 1), .int .i64 t] 44)
                  have hgz := World.grownBy_alloc (wr.alloc (.cells #[.int .i64 (k + 1), .int .i64 t] 44)) (.cells #[.int .i64 (k + 1), .int .i64 t] 44) none
                  have hmz := mark_mine (HA.out (k + 1)).1 hgz hg1 (fun g e => by
                    have h1 := (hA2.lt g e).1
                    have h2 := HS.out.1.grown.size
                    have h3 := H6.out.2.2.2.2.1
                    exact ⟨by have := H3.out.1.grown.size; omega, three_far (by omega) (by omega) (by omega)⟩)
                  have hrz := mark_own (HA.out (k + 1)).2.1 hgz hg1 (fun g e g' e' => by
                    have h1 := (hA2.lt g e).1
                    have h2 := (H4R.out.lt g' e').2
                    omega)
                  have HW := Lib.hid (And.intro hmz (And.intro hrz (And.intro (show wz.ownsRow (w4.heap.size + 1) 44 2 v' (hs ++ hole (k + 1) t).length (rgsV (hs ++ hole (k + 1) t)) by rw [HE2.out, rgsV_snoc, List.length_append, List.length_singleton]; exact hown1) (show w4.heap.size + 1 ≤ wz.heap.size by have := hg1.size; have := hgz.size; have := (HA.out (k + 1)).2.2.2; omega))))
                  clear hown1 hg1 hA2 hgz hmz hrz
                  go_wp2_with fail
                  go_roundw
                  case rel => exact ⟨j + 1, hs ++ hole (k + 1) t, hlt2, by go_num, HW.out.1, HW.out.2.1, HW.out.2.2.1, HM2.out (k + 1) (by rw [if_neg (by omega)]), HX.out (k + 1), HW.out.2.2.2⟩
                  case measure => simp [intOf]; omega
                · have hqt2 : t ≤ k + 1 := by omega
                  have HE2 := Lib.hid (show hs ++ hole (k + 1) t = hs by rw [hole, if_neg (by omega)]; simp)
                  have HQ2 := Lib.hid (HM2.out (k + 1) (by rw [if_neg (by omega)]))
                  go_wp2_with fail
                  go_roundw
                  case rel => exact ⟨j + 1, hs, hlt2, by go_num, (HA.out (k + 1)).1, (HA.out (k + 1)).2.1, (HA.out (k + 1)).2.2.1, by rw [← HQ2.out, HE2.out], by omega, by have := (HA.out (k + 1)).2.2.2; omega⟩
                  case measure => simp [intOf]; omega
        · obtain rfl : j = l.length := by omega
          have HF := Lib.hid HS.out.2.2.2
          rw [List.drop_length, beyF, List.append_nil] at HF
          obtain ⟨av, cv, rfl⟩ := own_slice HS.out.2.2.1
          have hown : OwnRg wr (w4.heap.size + 1) av cv hs := HS.out.2.2.1
          have hput := (bd_put HS.out.1 (two_far (by have := H6.out.2.2.2.2.1; have := H4S.out; omega) (by have := H6.out.2.2.2.2.1; have := H4S.out; omega))).2.2 (.slice av hs.length cv)
          have HPT := Lib.hid (And.intro hput hown)
          obtain ⟨r0, r1, r2⟩ := bd_facts HS.out.1.left.right
          obtain ⟨f0, f1, f2⟩ := bd_frees HS.out.1.left.right
          obtain ⟨y0, y1, y2⟩ := bd_frees HS.out.1.right
          clear hput hown
          have hB2 : w.heap.size + 1 < w4.heap.size := by have := H6.out.2.2.2.2.1; have := H6.out.2.2.2.2.2; have := H4S.out; omega
          have hB3 : w.heap.size < w4.heap.size := by omega
          go_wp2_with fail
          have hgr := res3_grown (R := w.heap.size + 1) (.int .i64 k) (.int .i64 n) (.slice av hs.length cv) HPT.out.1.grown (by omega)
          refine bodyPost_ret (v := .tuple #[bdV k n av hs.length cv, .bool true]) ?_ rfl (bd_as HN.out ⟨av, cv, ?_, hgr, ?_⟩)
          · simp [results, Try.results52, go_sem, r0, r1, r2]
          · rw [← HF.out]
          · rw [← HF.out]
            exact own_base (own_setB (own_setB (own_setB (own_setB HPT.out.2 (by omega)) (by omega)) (by omega)) (by omega)) (by omega)

end Go.Proofs.Ytedhemllgpbheaa

namespace Go.Proofs.Ytedhemllgpbheaa
open Go.RowKit

def gapR (p q : Rg) : Prop := p.2 < q.1
def GdR (l : List Rg) : Prop := l.Pairwise gapR ∧ ∀ p ∈ l, p.1 < p.2
theorem gdR_cons {p : Rg} {l : List Rg} (h : GdR (p :: l)) : GdR l ∧ (∀ q ∈ l, p.2 < q.1) ∧ p.1 < p.2 :=
  ⟨⟨(List.pairwise_cons.mp h.1).2, fun q hq => h.2 q (by simp [hq])⟩, (List.pairwise_cons.mp h.1).1, h.2 p (by simp)⟩
theorem gdR_mk {p : Rg} {l : List Rg} (h : GdR l) (hg : ∀ q ∈ l, p.2 < q.1) (hp : p.1 < p.2) : GdR (p :: l) :=
  ⟨List.pairwise_cons.mpr ⟨hg, h.1⟩, fun q hq => by rcases List.mem_cons.mp hq with rfl | hq; exact hp; exact h.2 q hq⟩
theorem apart_pair : ∀ l : List Rg, RApart l → (∀ x ∈ l, x.1 < x.2) → l.Pairwise gapR
  | [], _, _ => List.Pairwise.nil
  | [x], _, _ => by simp
  | x :: y :: l, ha, hp => by
    have h1 := apart_pair (y :: l) (fun i h => ha (i + 1) (by simpa using h)) (fun z hz => hp z (List.mem_cons_of_mem _ hz))
    have h2 : x.2 < y.1 := ha 0 (by simp)
    have h3 := hp y (by simp)
    refine List.pairwise_cons.mpr ⟨fun q hq => ?_, h1⟩
    rcases List.mem_cons.mp hq with rfl | hq
    · exact h2
    · have h4 : y.2 < q.1 := (List.pairwise_cons.mp h1).1 q hq
      show x.2 < q.1
      omega
theorem bdP_good {u n : Int} {l : List Rg} (h : bdP u n l) : GdR l := ⟨apart_pair l h.2.2.2.2.2 (fun x hx => (h.2.2.2.2.1 x hx).2.1), fun x hx => (h.2.2.2.2.1 x hx).2.1⟩

def overR (p x : Rg) : Rg := (min p.1 x.1, max p.2 x.2)
def mergeR : List Rg → Rg → List Rg
  | [], x => [x]
  | p :: l, x => if p.1 ≤ x.2 then mergeR l (overR p x) else x :: p :: l
def withL : List Rg → Rg → List Rg
  | [], x => [x]
  | p :: l, x => if p.2 < x.1 then p :: withL l x else mergeR (p :: l) x
def absorb : List Rg → Rg → Rg
  | [], x => x
  | p :: l, x => absorb l (if x.1 ≤ p.2 ∧ p.1 ≤ x.2 then overR p x else x)
def emit : List Rg → Rg → Bool → List Rg
  | [], x, d => if d = true then [] else [x]
  | p :: l, x, d => if x.1 ≤ p.1 ∧ p.2 ≤ x.2 then emit l x d else if d = false ∧ x.1 < p.1 then x :: p :: emit l x true else p :: emit l x d
def putR (l : List Rg) (x : Rg) : List Rg := emit l (absorb l x) false

theorem absorb_lo (B : Int) : ∀ (l : List Rg) (x : Rg), (∀ z ∈ l, B < z.1) → B < x.1 → B < (absorb l x).1
  | [], x, _, h => h
  | p :: l, x, hl, h => by
    rw [absorb]
    refine absorb_lo B l _ (fun z hz => hl z (List.mem_cons_of_mem _ hz)) ?_
    have := hl p (by simp)
    split
    · show B < min p.1 x.1; omega
    · exact h
theorem absorb_le : ∀ (l : List Rg) (x : Rg), (absorb l x).1 ≤ x.1 ∧ x.2 ≤ (absorb l x).2
  | [], x => ⟨Int.le_refl _, Int.le_refl _⟩
  | p :: l, x => by
    rw [absorb]
    obtain ⟨a, b⟩ := absorb_le l (if x.1 ≤ p.2 ∧ p.1 ≤ x.2 then overR p x else x)
    split at a <;> split at b
    · have a1 : (overR p x).1 ≤ x.1 := by show min p.1 x.1 ≤ x.1; omega
      have b1 : x.2 ≤ (overR p x).2 := by show x.2 ≤ max p.2 x.2; omega
      rw [if_pos (by assumption)]
      omega
    · contradiction
    · contradiction
    · rw [if_neg (by assumption)]
      omega
theorem absorb_far : ∀ (l : List Rg) (x : Rg), (∀ z ∈ l, x.2 < z.1) → absorb l x = x
  | [], x, _ => rfl
  | p :: l, x, h => by
    have := h p (by simp)
    rw [absorb, if_neg (by omega)]
    exact absorb_far l x (fun z hz => h z (List.mem_cons_of_mem _ hz))
theorem emit_done : ∀ (l : List Rg) (x : Rg), (∀ z ∈ l, x.2 < z.1 ∧ z.1 < z.2) → emit l x true = l
  | [], x, _ => by simp [emit]
  | p :: l, x, h => by
    have := h p (by simp)
    rw [emit, if_neg (by omega), if_neg (by simp), emit_done l x (fun z hz => h z (List.mem_cons_of_mem _ hz))]
theorem merge_put : ∀ (l : List Rg) (x : Rg), GdR l → (∀ z ∈ l, x.1 ≤ z.2) → x.1 < x.2 → emit l (absorb l x) false = mergeR l x
  | [], x, _, _, _ => by simp [emit, absorb, mergeR]
  | p :: l, x, hg, hz, hx => by
    obtain ⟨g1, g2, g3⟩ := gdR_cons hg
    have h0 := hz p (by simp)
    by_cases ht : p.1 ≤ x.2
    · rw [absorb, if_pos ⟨h0, ht⟩, mergeR, if_pos ht]
      have hl := absorb_le l (overR p x)
      have e1 : (overR p x).1 = min p.1 x.1 := rfl
      have e2 : (overR p x).2 = max p.2 x.2 := rfl
      rw [emit, if_pos (by omega)]
      exact merge_put l (overR p x) g1 (fun z hz' => by have := g2 z hz'; have := g1.2 z hz'; omega) (by omega)
    · have hf : ∀ z ∈ l, x.2 < z.1 := fun z hz' => by have := g2 z hz'; omega
      rw [absorb, if_neg (by omega), absorb_far l x hf, mergeR, if_neg ht, emit, if_neg (by omega), if_pos ⟨rfl, by omega⟩, emit_done l x (fun z hz' => ⟨hf z hz', g1.2 z hz'⟩)]
theorem with_put : ∀ (l : List Rg) (x : Rg), GdR l → x.1 < x.2 → putR l x = withL l x
  | [], x, _, _ => by simp [putR, emit, absorb, withL]
  | p :: l, x, hg, hx => by
    obtain ⟨g1, g2, g3⟩ := gdR_cons hg
    by_cases ht : p.2 < x.1
    · have h1 := absorb_lo p.2 l x g2 ht
      have h2 := with_put l x g1 hx
      unfold putR at h2 ⊢
      rw [absorb, if_neg (by omega), emit, if_neg (by omega), if_neg (by omega), withL, if_pos ht, h2]
    · rw [withL, if_neg ht]
      refine merge_put (p :: l) x hg (fun z hz => ?_) hx
      rcases List.mem_cons.mp hz with rfl | hz
      · omega
      · have := g2 z hz; have := g1.2 z hz; omega

theorem merge_len : ∀ (l : List Rg) (x : Rg), (mergeR l x).length ≤ l.length + 1
  | [], x => by simp [mergeR]
  | p :: l, x => by
    rw [mergeR]
    split
    · have := merge_len l (overR p x); simp only [List.length_cons]; omega
    · simp
theorem with_len : ∀ (l : List Rg) (x : Rg), (withL l x).length ≤ l.length + 1
  | [], x => by simp [withL]
  | p :: l, x => by
    rw [withL]
    split
    · have := with_len l x; simp only [List.length_cons]; omega
    · exact merge_len (p :: l) x
theorem merge_low (B : Int) : ∀ (l : List Rg) (x : Rg), (∀ z ∈ l, B < z.1) → B < x.1 → ∀ z ∈ mergeR l x, B < z.1
  | [], x, _, h, z, hz => by simp [mergeR] at hz; rw [hz]; exact h
  | p :: l, x, hl, h, z, hz => by
    rw [mergeR] at hz
    have := hl p (by simp)
    split at hz
    · exact merge_low B l _ (fun z hz => hl z (List.mem_cons_of_mem _ hz)) (by show B < min p.1 x.1; omega) z hz
    · rcases List.mem_cons.mp hz with rfl | hz
      · exact h
      · exact hl z hz
theorem merge_good : ∀ (l : List Rg) (x : Rg), GdR l → x.1 < x.2 → GdR (mergeR l x)
  | [], x, h, hx => gdR_mk h (by simp) hx
  | p :: l, x, h, hx => by
    obtain ⟨g1, g2, g3⟩ := gdR_cons h
    rw [mergeR]
    split
    · exact merge_good l _ g1 (by show min p.1 x.1 < max p.2 x.2; omega)
    · refine gdR_mk h (fun q hq => ?_) hx
      rcases List.mem_cons.mp hq with rfl | hq
      · omega
      · have := g2 q hq; omega
theorem with_low (B : Int) : ∀ (l : List Rg) (x : Rg), (∀ z ∈ l, B < z.1) → B < x.1 → ∀ z ∈ withL l x, B < z.1
  | [], x, _, h, z, hz => by simp [withL] at hz; rw [hz]; exact h
  | p :: l, x, hl, h, z, hz => by
    rw [withL] at hz
    split at hz
    · rcases List.mem_cons.mp hz with rfl | hz
      · exact hl z (by simp)
      · exact with_low B l x (fun z hz => hl z (List.mem_cons_of_mem _ hz)) h z hz
    · exact merge_low B (p :: l) x hl h z hz
theorem with_good : ∀ (l : List Rg) (x : Rg), GdR l → x.1 < x.2 → GdR (withL l x)
  | [], x, h, hx => gdR_mk h (by simp) hx
  | p :: l, x, h, hx => by
    obtain ⟨g1, g2, g3⟩ := gdR_cons h
    rw [withL]
    split
    · exact gdR_mk (with_good l x g1 hx) (with_low p.2 l x g2 (by assumption)) g3
    · exact merge_good (p :: l) x h hx

/-- What is told one by one. -/
def sackF (u n : Int) : List Rg → List Rg → List Rg
  | t, [] => t
  | t, x :: m => sackF u n (if rg1 u n x then withL t x else t) m
theorem sackF_next (u n : Int) : ∀ (m t : List Rg) (j : Nat) (h : j < m.length), sackF u n t (m.take (j + 1)) = (if rg1 u n m[j] then withL (sackF u n t (m.take j)) m[j] else sackF u n t (m.take j))
  | x :: m, t, 0, _ => by simp [sackF]
  | x :: m, t, j + 1, h => by
    have := sackF_next u n m (if rg1 u n x then withL t x else t) j (by simpa using h)
    simpa [sackF] using this
theorem sackF_good (u n : Int) : ∀ (m t : List Rg), GdR t → GdR (sackF u n t m)
  | [], t, h => h
  | x :: m, t, h => by
    rw [sackF]
    refine sackF_good u n m _ ?_
    split
    · rename_i hx; exact with_good t x h hx.2.1
    · exact h
theorem sackF_len (u n : Int) : ∀ (m t : List Rg), (sackF u n t m).length ≤ t.length + m.length
  | [], t => by simp [sackF]
  | x :: m, t => by
    rw [sackF]
    have h1 := sackF_len u n m (if rg1 u n x then withL t x else t)
    have h2 := with_len t x
    simp only [List.length_cons]
    split at h1 <;> split <;> first | contradiction | omega

end Go.Proofs.Ytedhemllgpbheaa

namespace Go.Proofs.Ytedhemllgpbheaa
open Go.RowKit

theorem grown_frozen {a b : World} {row : Option Nat} (hg : a.grownBy b row) {p : Addr} {v : Value} (h : a.cell? p = some v) (hne : some p.block ≠ row) {x : Bool} (hf : a.frozen? p = x) : b.frozen? p = x := by
  rw [World.frozen?_of_block (hg.block p.block (World.block_lt_of_cell? a p h) hne)]
  exact hf

structure Two (w : World) (E : Nat) (x y : Value) : Prop where
  a : w.cell? ⟨E, 0, none⟩ = some x
  b : w.cell? ⟨E, 1, none⟩ = some y
  f : w.frozen? ⟨E, 0, none⟩ = false
  g : w.frozen? ⟨E, 1, none⟩ = false

theorem two_new (w : World) (x y : Value) (T : TypeId) : Two (w.alloc (.cells #[x, y] T)) w.heap.size x y := ⟨by go_simp, by go_simp, by go_simp, by go_simp⟩

theorem Two.kept {w w' : World} {E : Nat} {x y : Value} {r : Option Nat} (h : Two w E x y) (hg : w.grownBy w' r) (hne : some E ≠ r) : Two w' E x y :=
  ⟨hg.cell h.a hne, hg.cell h.b hne, grown_frozen hg h.a hne h.f, grown_frozen hg h.b hne h.g⟩

theorem two_set {w : World} {C : Nat} {x y x' y' : Value} (h : Two w C x y) : Two ((w.setCell ⟨C, 0, none⟩ x').setCell ⟨C, 1, none⟩ y') C x' y' := by
  obtain ⟨a, b, f, g⟩ := h
  exact ⟨by simp [go_sem, a], by simp [go_sem, b], by simp [f], by simp [g]⟩
end Go.Proofs.Ytedhemllgpbheaa

namespace Go.Proofs.Ytedhemllgpbheaa
open Go.RowKit

theorem drop_at (l : List Rg) (j : Nat) (h : j < l.length) : l.drop j = l[j] :: l.drop (j + 1) := List.drop_eq_getElem_cons h
theorem RgAt.cells {w : World} {b off : Nat} {l : List Rg} (h : RgAt w (some ⟨b, off, none⟩) l) (i : Nat) (hi : i < l.length) : w.cell? ⟨b, off + i * 2, none⟩ = some (.int .i64 (l[i]).1) ∧ w.cell? ⟨b, off + i * 2 + 1, none⟩ = some (.int .i64 (l[i]).2) := by
  rcases h with h | ⟨b', off', ha, _, hc⟩
  · subst h; simp at hi
  · cases ha; exact hc i hi
def Pt1Rel (w : World) (l : List Rg) (x : Rg) (i : Value) (wr : World) : Prop :=
  ∃ (j : Nat) (y : Rg), j ≤ l.length ∧ i = .int .i64 (j : Int) ∧ w.grownBy wr none ∧ Two wr w.heap.size (.int .i64 y.1) (.int .i64 y.2) ∧ wr.ownsRow (w.heap.size + 1) 44 2 (.slice (some ⟨w.heap.size + 1, 0, none⟩) 0 0) 0 (rgsV []) ∧ absorb (l.drop j) y = absorb l x
def Pt2Rel (w : World) (l : List Rg) (X : Rg) (v d i : Value) (wr : World) : Prop :=
  ∃ (j : Nat) (hs : List Rg) (b : Bool), j ≤ l.length ∧ i = .int .i64 (j : Int) ∧ d = .bool b ∧ w.grownBy wr none ∧ Two wr w.heap.size (.int .i64 X.1) (.int .i64 X.2) ∧ wr.ownsRow (w.heap.size + 1) 44 2 v hs.length (rgsV hs) ∧ hs ++ emit (l.drop j) X b = emit l X false ∧ hs.length ≤ 2 * j ∧ w.heap.size + 1 ≤ wr.heap.size

set_option maxRecDepth 100000 in
set_option maxHeartbeats 16000000 in
theorem put_any (a : Option Addr) (c : Nat) (l : List Rg) (p m : Int) (w : World) (h : RgAt w a l) (hl : l.length ≤ 1000) :
    Calls Try.prog 57 #[.slice a l.length c, .agg #[.int .i64 p, .int .i64 m]] w (CcPost w (putR l (p, m))) := by
  obtain ⟨i0, hi, hz0, hz1, hz2⟩ := info_of infoRg
  have hT := two_new w (.int .i64 p) (.int .i64 m) 44
  have hG := World.grownBy_alloc w (.cells #[.int .i64 p, .int .i64 m] 44) none
  have hE : ((w.alloc (.cells #[.int .i64 p, .int .i64 m] 44)).alloc (.cells #[] 44)).ownsRow (w.heap.size + 1) 44 2 (.slice (some ⟨w.heap.size + 1, 0, none⟩) 0 0) 0 (rgsV []) := by
    have := row_empty (w.alloc (.cells #[.int .i64 p, .int .i64 m] 44)) 44 2 _ (Nat.le_refl _)
    rw [alloc_size] at this
    exact this
  have hA := World.grownBy_alloc (w.alloc (.cells #[.int .i64 p, .int .i64 m] 44)) (.cells #[] 44) none
  have H := Lib.hid (And.intro h (And.intro (grownBy_trans hG hA) (And.intro (hT.kept hA (by simp)) hE)))
  clear h hT hG hA hE
  go_enter Try.func57, Try.ntmps57
  go_wp2_with fail
  go_loopw [6] (fun i wr => Pt1Rel w l (p, m) i wr) (fun i _ => l.length - (intOf i).toNat)
  case atStart => exact ⟨0, (p, m), Nat.zero_le _, rfl, H.out.2.1, H.out.2.2.1, H.out.2.2.2, rfl⟩
  case round =>
    obtain ⟨j, y, hj, rfl, hg, ht, ho, hab⟩ := hrel
    have HS := Lib.hid (And.intro hg (And.intro ht (And.intro ho hab)))
    clear hg ht ho hab
    obtain ⟨r, s⟩ := y
    dsimp only at HS
    by_cases hlt : j < l.length
    · rcases (H.out.1.kept HS.out.1) with hn | ⟨b, off, rfl, hb, hc⟩
      · rw [hn] at hlt
        simp at hlt
      · obtain ⟨c0, c1⟩ := hc j hlt
        clear hc
        have hlt' : (j : Int) < (l.length : Int) := by omega
        have hj0 : (0 : Int) ≤ (j : Int) := by omega
        have HD := Lib.hid (drop_at l j hlt)
        generalize l[j] = z at *
        obtain ⟨f, t⟩ := z
        dsimp only at c0 c1
        obtain ⟨z0, z1, z2, z3⟩ := HS.out.2.1
        have hBs : w.heap.size < wr.heap.size := cell_in z0
        by_cases h1 : r ≤ t
        · have h1' : decide (r ≤ t) = true := decide_eq_true h1
          by_cases h2 : f ≤ s
          · have h2' : decide (f ≤ s) = true := decide_eq_true h2
            have HX := Lib.hid (show absorb (l.drop (j + 1)) (min f r, max t s) = absorb l (p, m) by rw [← HS.out.2.2.2, HD.out, absorb, if_pos ⟨h1, h2⟩]; rfl)
            have hmin : (r ≤ f ∧ ¬ f < r ∧ Hid (min f r = r)) ∨ (¬ r ≤ f ∧ f ≤ r ∧ Hid (min f r = f)) := by
              by_cases h : r ≤ f
              · exact .inl ⟨h, by omega, Lib.hid (by omega)⟩
              · exact .inr ⟨h, by omega, Lib.hid (by omega)⟩
            have hmax : (t ≤ s ∧ ¬ s < t ∧ Hid (max t s = s)) ∨ (¬ t ≤ s ∧ s ≤ t ∧ Hid (max t s = t)) := by
              by_cases h : t ≤ s
              · exact .inl ⟨h, by omega, Lib.hid (by omega)⟩
              · exact .inr ⟨h, by omega, Lib.hid (by omega)⟩
            rcases hmin with ⟨hn1, hn2, HN⟩ | ⟨hn1, hn2, HN⟩
            all_goals
              rcases hmax with ⟨hm1, hm2, HMX⟩ | ⟨hm1, hm2, HMX⟩
              all_goals
                rw [HN.out, HMX.out] at HX
                go_wp2_with fail
                go_quiet (fail)
                have HQ := Lib.hid (And.intro (grownBy_trans HS.out.1 (grownBy_drewN (r := none) nq)) (And.intro (HS.out.2.1.kept (grownBy_drewN (r := none) nq) (by simp)) (own_kept HS.out.2.2.1 (grownBy_drewN (r := none) nq))))
                have d0 := (grownBy_drewN (a := wr) (r := none) nq).cell c0 (by simp)
                have d1 := (grownBy_drewN (a := wr) (r := none) nq).cell c1 (by simp)
                clear c0 c1 z0 z1 z2 z3 hBs
                generalize wr.drewN nq = wq at *
                obtain ⟨z0, z1, z2, z3⟩ := HQ.out.2.1
                have hBs : w.heap.size < wq.heap.size := cell_in z0
                have HW := Lib.hid (fun (u v : Value) => And.intro (grownBy_trans (grownBy_new HQ.out.1 (grownBy_trans (grownBy_set wq w.heap.size 0 u) (grownBy_set (wq.setCell ⟨w.heap.size, 0, none⟩ u) w.heap.size 1 v)) (Nat.le_refl _)) grownBy_drew) (And.intro ((two_set (x' := u) (y' := v) HQ.out.2.1).kept (grownBy_drew (r := none)) (by simp)) (own_kept (World.ownsRow.kept (World.ownsRow.kept HQ.out.2.2 (grownBy_set wq w.heap.size 0 u) (.inr (by simp [Value.ownBlock]))) (grownBy_set (wq.setCell ⟨w.heap.size, 0, none⟩ u) w.heap.size 1 v) (.inr (by simp [Value.ownBlock]))) grownBy_drew)))
                go_wp2_with fail
                go_still_tail 17, (by kernel_rfl)
                go_wp2_with fail
                go_roundw
                case rel => exact ⟨j + 1, (_, _), hlt, by go_num, (HW.out _ _).1, (HW.out _ _).2.1, (HW.out _ _).2.2, HX.out⟩
                case measure => simp [intOf]; omega
          · have h2' : decide (f ≤ s) = false := decide_eq_false h2
            have HX := Lib.hid (show absorb (l.drop (j + 1)) (r, s) = absorb l (p, m) by rw [← HS.out.2.2.2, HD.out, absorb, if_neg (by show ¬ (r ≤ t ∧ f ≤ s); omega)])
            go_wp2_with fail
            go_quiet (fail)
            go_wp2_with fail
            go_roundw
            case rel => exact ⟨j + 1, (r, s), hlt, by go_num, grownBy_trans HS.out.1 (grownBy_drewN _), HS.out.2.1.kept (grownBy_drewN (r := none) _) (by simp), own_kept HS.out.2.2.1 (grownBy_drewN _), HX.out⟩
            case measure => simp [intOf]; omega
        · have h1' : decide (r ≤ t) = false := decide_eq_false h1
          have HX := Lib.hid (show absorb (l.drop (j + 1)) (r, s) = absorb l (p, m) by rw [← HS.out.2.2.2, HD.out, absorb, if_neg (by show ¬ (r ≤ t ∧ f ≤ s); omega)])
          go_wp2_with fail
          go_quiet (fail)
          go_wp2_with fail
          go_roundw
          case rel => exact ⟨j + 1, (r, s), hlt, by go_num, grownBy_trans HS.out.1 (grownBy_drewN _), HS.out.2.1.kept (grownBy_drewN (r := none) _) (by simp), own_kept HS.out.2.2.1 (grownBy_drewN _), HX.out⟩
          case measure => simp [intOf]; omega
    · obtain rfl : j = l.length := by omega
      have HXE := Lib.hid (show absorb l (p, m) = (r, s) by rw [← HS.out.2.2.2, List.drop_length]; rfl)
      have H2 := Lib.hid (And.intro HS.out.1 (And.intro HS.out.2.1 HS.out.2.2.1))
      have hsz2 : w.heap.size < wr.heap.size := cell_in HS.out.2.1.a
      have HSZ := Lib.hid hsz2
      clear HS hsz2
      go_wp2_with fail
      go_loopw [5, 7, 8] (fun v d i w5 => Pt2Rel w l (r, s) v d i w5) (fun _ _ i _ => l.length - (intOf i).toNat)
      case atStart => exact ⟨0, [], false, Nat.zero_le _, rfl, rfl, H2.out.1, H2.out.2.1, H2.out.2.2, rfl, Nat.le_refl _, HSZ.out⟩
      case round =>
        clear H2 HSZ hj hlt
        obtain ⟨j, hs, bb, hj, rfl, rfl, hg, ht, ho, he, hlen, hsz⟩ := hrel
        have HS := Lib.hid (And.intro hg (And.intro ht (And.intro ho he)))
        clear hg ht ho he
        dsimp only at HS
        by_cases hlt : j < l.length
        · rcases (H.out.1.kept HS.out.1) with hn | ⟨b, off, rfl, hb, hc⟩
          · rw [hn] at hlt
            simp at hlt
          · clear hc hb
            have HCL := Lib.hid (fun (w' : World) (hg : w.grownBy w' none) => (H.out.1.kept hg).cells j hlt)
            have hlt' : (j : Int) < (l.length : Int) := by omega
            have hj0 : (0 : Int) ≤ (j : Int) := by omega
            have HD := Lib.hid (drop_at l j hlt)
            generalize l[j] = z at *
            obtain ⟨f, t⟩ := z
            dsimp only at HCL
            obtain ⟨c0, c1⟩ := HCL.out _ HS.out.1
            obtain ⟨z0, z1, z2, z3⟩ := HS.out.2.1
            by_cases h1 : r ≤ f
            · have h1' : decide (r ≤ f) = true := decide_eq_true h1
              by_cases h2 : t ≤ s
              · have h2' : decide (t ≤ s) = true := decide_eq_true h2
                have HX := Lib.hid (show hs ++ emit (l.drop (j + 1)) (r, s) bb = emit l (r, s) false by rw [← HS.out.2.2.2, HD.out, emit, if_pos ⟨h1, h2⟩])
                go_wp2_with fail
                go_quiet (fail)
                have HQ := Lib.hid (And.intro (grownBy_trans HS.out.1 (grownBy_drewN (r := none) nq)) (And.intro (HS.out.2.1.kept (grownBy_drewN (r := none) nq) (by simp)) (own_kept HS.out.2.2.1 (grownBy_drewN (r := none) nq))))
                clear c0 c1 z0 z1 z2 z3
                generalize wr.drewN nq = wrq at *
                obtain ⟨z0, z1, z2, z3⟩ := HQ.out.2.1
                obtain ⟨c0, c1⟩ := HCL.out _ HQ.out.1
                go_wp2_with fail
                go_roundw
                case rel => exact ⟨j + 1, hs, bb, hlt, by go_num, rfl, HQ.out.1, HQ.out.2.1, HQ.out.2.2, HX.out, by omega, by have := cell_in HQ.out.2.1.a; simp at this; omega⟩
                case measure => simp [intOf]; omega
              · have h2' : decide (t ≤ s) = false := decide_eq_false h2
                cases bb
                · by_cases h3 : r < f
                  · have h3' : decide (r < f) = true := decide_eq_true h3
                    have HX := Lib.hid (show (hs ++ [(r, s)] ++ [(f, t)]) ++ emit (l.drop (j + 1)) (r, s) true = emit l (r, s) false by rw [← HS.out.2.2.2, HD.out, emit, if_neg (by show ¬ (r ≤ f ∧ t ≤ s); omega), if_pos ⟨rfl, h3⟩]; simp)
                    go_wp2_with fail
                    go_quiet (fail)
                    have HQ := Lib.hid (And.intro (grownBy_trans HS.out.1 (grownBy_drewN (r := none) nq)) (And.intro (HS.out.2.1.kept (grownBy_drewN (r := none) nq) (by simp)) (own_kept HS.out.2.2.1 (grownBy_drewN (r := none) nq))))
                    clear c0 c1 z0 z1 z2 z3
                    generalize wr.drewN nq = wrq at *
                    obtain ⟨z0, z1, z2, z3⟩ := HQ.out.2.1
                    obtain ⟨c0, c1⟩ := HCL.out _ HQ.out.1
                    go_wp2_with fail
                    go_quiet (fail)
                    have HR := Lib.hid (And.intro (grownBy_trans HQ.out.1 (grownBy_drewN (r := none) nq)) (And.intro (HQ.out.2.1.kept (grownBy_drewN (r := none) nq) (by simp)) (own_kept HQ.out.2.2 (grownBy_drewN (r := none) nq))))
                    clear c0 c1 z0 z1 z2 z3
                    generalize wrq.drewN nq = wrqq at *
                    obtain ⟨z0, z1, z2, z3⟩ := HR.out.2.1
                    obtain ⟨c0, c1⟩ := HCL.out _ HR.out.1
                    go_wp2_with (at_builtin; refine wpList_append_own _ rfl _ _ 31 rfl (w.heap.size + 1) 44 i0 _ 2 16 Try.underlying31 hi hz0 hz1 hz2 rfl (by decide) _ _ _ rfl (HR.out.2.2.alloc _) ⟨wrqq.heap.size, 0, none⟩ 1 1 [.int .i64 r, .int .i64 s] rfl rfl ?b1 ?b2 ?b3 ?b4 ?b5 ?_)
                    try (case b1 => exact pair_new wrqq _ _ _ _ rfl)
                    case b2 => simp [Value.oneCell']
                    case b3 => unfold maxLen; first | omega | (simp; omega)
                    case b4 => first | omega | (simp; omega)
                    case b5 => have hx5 : w.heap.size < wrqq.heap.size := cell_in HR.out.2.1.a; first | omega | (simp; omega)
                    intro v' wz hown1 hg1 _
                    have wzH := Lib.hid (And.intro (grow_own (grownBy_trans HR.out.1 (World.grownBy_alloc wrqq (.cells #[.int .i64 r, .int .i64 s] 44) none)) hg1 (HR.out.2.2.alloc (.cells #[.int .i64 r, .int .i64 s] 44)) (Nat.le_succ _)) (And.intro ((HR.out.2.1.kept (World.grownBy_alloc wrqq (.cells #[.int .i64 r, .int .i64 s] 44) none) (by simp)).kept hg1 (fun e => by have := (HR.out.2.2.lt _ e.symm).1; omega)) (show wz.ownsRow (w.heap.size + 1) 44 2 v' (hs ++ [(r, s)]).length (rgsV (hs ++ [(r, s)])) by rw [rgsV_snoc, List.length_append, List.length_singleton]; first | exact hown1 | (rw [List.length_append, List.length_singleton]; exact hown1))))
                    clear hown1 hg1
                    clear c0 c1 z0 z1 z2 z3
                    obtain ⟨z0, z1, z2, z3⟩ := wzH.out.2.1
                    obtain ⟨c0, c1⟩ := HCL.out _ wzH.out.1
                    go_wp2_with (at_builtin; refine wpList_append_own _ rfl _ _ 31 rfl (w.heap.size + 1) 44 i0 _ 2 16 Try.underlying31 hi hz0 hz1 hz2 rfl (by decide) _ _ _ rfl (wzH.out.2.2.alloc _) ⟨wz.heap.size, 0, none⟩ 1 1 [.int .i64 f, .int .i64 t] rfl rfl ?c1 ?c2 ?c3 ?c4 ?c5 ?_)
                    try (case c1 => exact pair_new wz _ _ _ _ rfl)
                    case c2 => simp [Value.oneCell']
                    case c3 => unfold maxLen; first | omega | (simp; omega)
                    case c4 => first | omega | (simp; omega)
                    case c5 => have hx5 : w.heap.size < wz.heap.size := cell_in wzH.out.2.1.a; first | omega | (simp; omega)
                    intro v' wy hown1 hg1 _
                    have wyH := Lib.hid (And.intro (grow_own (grownBy_trans wzH.out.1 (World.grownBy_alloc wz (.cells #[.int .i64 f, .int .i64 t] 44) none)) hg1 (wzH.out.2.2.alloc (.cells #[.int .i64 f, .int .i64 t] 44)) (Nat.le_succ _)) (And.intro ((wzH.out.2.1.kept (World.grownBy_alloc wz (.cells #[.int .i64 f, .int .i64 t] 44) none) (by simp)).kept hg1 (fun e => by have := (wzH.out.2.2.lt _ e.symm).1; omega)) (show wy.ownsRow (w.heap.size + 1) 44 2 v' ((hs ++ [(r, s)]) ++ [(f, t)]).length (rgsV ((hs ++ [(r, s)]) ++ [(f, t)])) by rw [rgsV_snoc, List.length_append, List.length_singleton]; first | exact hown1 | (rw [List.length_append, List.length_singleton]; exact hown1))))
                    clear hown1 hg1
                    go_wp2_with fail
                    go_roundw
                    case rel => exact ⟨j + 1, hs ++ [(r, s)] ++ [(f, t)], true, hlt, by go_num, rfl, wyH.out.1, wyH.out.2.1, wyH.out.2.2, HX.out, by simp only [List.length_append, List.length_singleton]; omega, by have := cell_in wyH.out.2.1.a; simp at this; omega⟩
                    case measure => simp [intOf]; omega
                  · have h3' : decide (r < f) = false := decide_eq_false h3
                    have HX := Lib.hid (show (hs ++ [(f, t)]) ++ emit (l.drop (j + 1)) (r, s) false = emit l (r, s) false by rw [← HS.out.2.2.2, HD.out, emit, if_neg (by show ¬ (r ≤ f ∧ t ≤ s); omega), if_neg (by simp; try omega)]; simp)
                    go_wp2_with fail
                    go_quiet (fail)
                    have HQ := Lib.hid (And.intro (grownBy_trans HS.out.1 (grownBy_drewN (r := none) nq)) (And.intro (HS.out.2.1.kept (grownBy_drewN (r := none) nq) (by simp)) (own_kept HS.out.2.2.1 (grownBy_drewN (r := none) nq))))
                    clear c0 c1 z0 z1 z2 z3
                    generalize wr.drewN nq = wrq at *
                    obtain ⟨z0, z1, z2, z3⟩ := HQ.out.2.1
                    obtain ⟨c0, c1⟩ := HCL.out _ HQ.out.1
                    go_wp2_with fail
                    go_quiet (fail)
                    have HR := Lib.hid (And.intro (grownBy_trans HQ.out.1 (grownBy_drewN (r := none) nq)) (And.intro (HQ.out.2.1.kept (grownBy_drewN (r := none) nq) (by simp)) (own_kept HQ.out.2.2 (grownBy_drewN (r := none) nq))))
                    clear c0 c1 z0 z1 z2 z3
                    generalize wrq.drewN nq = wrqq at *
                    obtain ⟨z0, z1, z2, z3⟩ := HR.out.2.1
                    obtain ⟨c0, c1⟩ := HCL.out _ HR.out.1
                    go_wp2_with (at_builtin; refine wpList_append_own _ rfl _ _ 31 rfl (w.heap.size + 1) 44 i0 _ 2 16 Try.underlying31 hi hz0 hz1 hz2 rfl (by decide) _ _ _ rfl (HR.out.2.2.alloc _) ⟨wrqq.heap.size, 0, none⟩ 1 1 [.int .i64 f, .int .i64 t] rfl rfl ?d1 ?d2 ?d3 ?d4 ?d5 ?_)
                    try (case d1 => exact pair_new wrqq _ _ _ _ rfl)
                    case d2 => simp [Value.oneCell']
                    case d3 => unfold maxLen; first | omega | (simp; omega)
                    case d4 => first | omega | (simp; omega)
                    case d5 => have hx5 : w.heap.size < wrqq.heap.size := cell_in HR.out.2.1.a; first | omega | (simp; omega)
                    intro v' wz hown1 hg1 _
                    have wzH := Lib.hid (And.intro (grow_own (grownBy_trans HR.out.1 (World.grownBy_alloc wrqq (.cells #[.int .i64 f, .int .i64 t] 44) none)) hg1 (HR.out.2.2.alloc (.cells #[.int .i64 f, .int .i64 t] 44)) (Nat.le_succ _)) (And.intro ((HR.out.2.1.kept (World.grownBy_alloc wrqq (.cells #[.int .i64 f, .int .i64 t] 44) none) (by simp)).kept hg1 (fun e => by have := (HR.out.2.2.lt _ e.symm).1; omega)) (show wz.ownsRow (w.heap.size + 1) 44 2 v' (hs ++ [(f, t)]).length (rgsV (hs ++ [(f, t)])) by rw [rgsV_snoc, List.length_append, List.length_singleton]; first | exact hown1 | (rw [List.length_append, List.length_singleton]; exact hown1))))
                    clear hown1 hg1
                    go_wp2_with fail
                    go_roundw
                    case rel => exact ⟨j + 1, hs ++ [(f, t)], false, hlt, by go_num, rfl, wzH.out.1, wzH.out.2.1, wzH.out.2.2, HX.out, by simp only [List.length_append, List.length_singleton]; omega, by have := cell_in wzH.out.2.1.a; simp at this; omega⟩
                    case measure => simp [intOf]; omega
                · have HX := Lib.hid (show (hs ++ [(f, t)]) ++ emit (l.drop (j + 1)) (r, s) true = emit l (r, s) false by rw [← HS.out.2.2.2, HD.out, emit, if_neg (by show ¬ (r ≤ f ∧ t ≤ s); omega), if_neg (by simp; try omega)]; simp)
                  go_wp2_with fail
                  go_quiet (fail)
                  have HQ := Lib.hid (And.intro (grownBy_trans HS.out.1 (grownBy_drewN (r := none) nq)) (And.intro (HS.out.2.1.kept (grownBy_drewN (r := none) nq) (by simp)) (own_kept HS.out.2.2.1 (grownBy_drewN (r := none) nq))))
                  clear c0 c1 z0 z1 z2 z3
                  generalize wr.drewN nq = wrq at *
                  obtain ⟨z0, z1, z2, z3⟩ := HQ.out.2.1
                  obtain ⟨c0, c1⟩ := HCL.out _ HQ.out.1
                  go_wp2_with fail
                  go_quiet (fail)
                  have HR := Lib.hid (And.intro (grownBy_trans HQ.out.1 (grownBy_drewN (r := none) nq)) (And.intro (HQ.out.2.1.kept (grownBy_drewN (r := none) nq) (by simp)) (own_kept HQ.out.2.2 (grownBy_drewN (r := none) nq))))
                  clear c0 c1 z0 z1 z2 z3
                  generalize wrq.drewN nq = wrqq at *
                  obtain ⟨z0, z1, z2, z3⟩ := HR.out.2.1
                  obtain ⟨c0, c1⟩ := HCL.out _ HR.out.1
                  go_wp2_with (at_builtin; refine wpList_append_own _ rfl _ _ 31 rfl (w.heap.size + 1) 44 i0 _ 2 16 Try.underlying31 hi hz0 hz1 hz2 rfl (by decide) _ _ _ rfl (HR.out.2.2.alloc _) ⟨wrqq.heap.size, 0, none⟩ 1 1 [.int .i64 f, .int .i64 t] rfl rfl ?e1 ?e2 ?e3 ?e4 ?e5 ?_)
                  try (case e1 => exact pair_new wrqq _ _ _ _ rfl)
                  case e2 => simp [Value.oneCell']
                  case e3 => unfold maxLen; first | omega | (simp; omega)
                  case e4 => first | omega | (simp; omega)
                  case e5 => have hx5 : w.heap.size < wrqq.heap.size := cell_in HR.out.2.1.a; first | omega | (simp; omega)
                  intro v' wz hown1 hg1 _
                  have wzH := Lib.hid (And.intro (grow_own (grownBy_trans HR.out.1 (World.grownBy_alloc wrqq (.cells #[.int .i64 f, .int .i64 t] 44) none)) hg1 (HR.out.2.2.alloc (.cells #[.int .i64 f, .int .i64 t] 44)) (Nat.le_succ _)) (And.intro ((HR.out.2.1.kept (World.grownBy_alloc wrqq (.cells #[.int .i64 f, .int .i64 t] 44) none) (by simp)).kept hg1 (fun e => by have := (HR.out.2.2.lt _ e.symm).1; omega)) (show wz.ownsRow (w.heap.size + 1) 44 2 v' (hs ++ [(f, t)]).length (rgsV (hs ++ [(f, t)])) by rw [rgsV_snoc, List.length_append, List.length_singleton]; first | exact hown1 | (rw [List.length_append, List.length_singleton]; exact hown1))))
                  clear hown1 hg1
                  go_wp2_with fail
                  go_roundw
                  case rel => exact ⟨j + 1, hs ++ [(f, t)], true, hlt, by go_num, rfl, wzH.out.1, wzH.out.2.1, wzH.out.2.2, HX.out, by simp only [List.length_append, List.length_singleton]; omega, by have := cell_in wzH.out.2.1.a; simp at this; omega⟩
                  case measure => simp [intOf]; omega
                  
            · have h1' : decide (r ≤ f) = false := decide_eq_false h1
              cases bb
              · have h3 : ¬ r < f := by omega
                have h3' : decide (r < f) = false := decide_eq_false h3
                have HX := Lib.hid (show (hs ++ [(f, t)]) ++ emit (l.drop (j + 1)) (r, s) false = emit l (r, s) false by rw [← HS.out.2.2.2, HD.out, emit, if_neg (by show ¬ (r ≤ f ∧ t ≤ s); omega), if_neg (by simp; try omega)]; simp)
                go_wp2_with fail
                go_quiet (fail)
                have HQ := Lib.hid (And.intro (grownBy_trans HS.out.1 (grownBy_drewN (r := none) nq)) (And.intro (HS.out.2.1.kept (grownBy_drewN (r := none) nq) (by simp)) (own_kept HS.out.2.2.1 (grownBy_drewN (r := none) nq))))
                clear c0 c1 z0 z1 z2 z3
                generalize wr.drewN nq = wrq at *
                obtain ⟨z0, z1, z2, z3⟩ := HQ.out.2.1
                obtain ⟨c0, c1⟩ := HCL.out _ HQ.out.1
                go_wp2_with fail
                go_quiet (fail)
                have HR := Lib.hid (And.intro (grownBy_trans HQ.out.1 (grownBy_drewN (r := none) nq)) (And.intro (HQ.out.2.1.kept (grownBy_drewN (r := none) nq) (by simp)) (own_kept HQ.out.2.2 (grownBy_drewN (r := none) nq))))
                clear c0 c1 z0 z1 z2 z3
                generalize wrq.drewN nq = wrqq at *
                obtain ⟨z0, z1, z2, z3⟩ := HR.out.2.1
                obtain ⟨c0, c1⟩ := HCL.out _ HR.out.1
                go_wp2_with (at_builtin; refine wpList_append_own _ rfl _ _ 31 rfl (w.heap.size + 1) 44 i0 _ 2 16 Try.underlying31 hi hz0 hz1 hz2 rfl (by decide) _ _ _ rfl (HR.out.2.2.alloc _) ⟨wrqq.heap.size, 0, none⟩ 1 1 [.int .i64 f, .int .i64 t] rfl rfl ?f1 ?f2 ?f3 ?f4 ?f5 ?_)
                try (case f1 => exact pair_new wrqq _ _ _ _ rfl)
                case f2 => simp [Value.oneCell']
                case f3 => unfold maxLen; first | omega | (simp; omega)
                case f4 => first | omega | (simp; omega)
                case f5 => have hx5 : w.heap.size < wrqq.heap.size := cell_in HR.out.2.1.a; first | omega | (simp; omega)
                intro v' wz hown1 hg1 _
                have wzH := Lib.hid (And.intro (grow_own (grownBy_trans HR.out.1 (World.grownBy_alloc wrqq (.cells #[.int .i64 f, .int .i64 t] 44) none)) hg1 (HR.out.2.2.alloc (.cells #[.int .i64 f, .int .i64 t] 44)) (Nat.le_succ _)) (And.intro ((HR.out.2.1.kept (World.grownBy_alloc wrqq (.cells #[.int .i64 f, .int .i64 t] 44) none) (by simp)).kept hg1 (fun e => by have := (HR.out.2.2.lt _ e.symm).1; omega)) (show wz.ownsRow (w.heap.size + 1) 44 2 v' (hs ++ [(f, t)]).length (rgsV (hs ++ [(f, t)])) by rw [rgsV_snoc, List.length_append, List.length_singleton]; first | exact hown1 | (rw [List.length_append, List.length_singleton]; exact hown1))))
                clear hown1 hg1
                go_wp2_with fail
                go_roundw
                case rel => exact ⟨j + 1, hs ++ [(f, t)], false, hlt, by go_num, rfl, wzH.out.1, wzH.out.2.1, wzH.out.2.2, HX.out, by simp only [List.length_append, List.length_singleton]; omega, by have := cell_in wzH.out.2.1.a; simp at this; omega⟩
                case measure => simp [intOf]; omega
              · have HX := Lib.hid (show (hs ++ [(f, t)]) ++ emit (l.drop (j + 1)) (r, s) true = emit l (r, s) false by rw [← HS.out.2.2.2, HD.out, emit, if_neg (by show ¬ (r ≤ f ∧ t ≤ s); omega), if_neg (by simp; try omega)]; simp)
                go_wp2_with fail
                go_quiet (fail)
                have HQ := Lib.hid (And.intro (grownBy_trans HS.out.1 (grownBy_drewN (r := none) nq)) (And.intro (HS.out.2.1.kept (grownBy_drewN (r := none) nq) (by simp)) (own_kept HS.out.2.2.1 (grownBy_drewN (r := none) nq))))
                clear c0 c1 z0 z1 z2 z3
                generalize wr.drewN nq = wrq at *
                obtain ⟨z0, z1, z2, z3⟩ := HQ.out.2.1
                obtain ⟨c0, c1⟩ := HCL.out _ HQ.out.1
                go_wp2_with fail
                go_quiet (fail)
                have HR := Lib.hid (And.intro (grownBy_trans HQ.out.1 (grownBy_drewN (r := none) nq)) (And.intro (HQ.out.2.1.kept (grownBy_drewN (r := none) nq) (by simp)) (own_kept HQ.out.2.2 (grownBy_drewN (r := none) nq))))
                clear c0 c1 z0 z1 z2 z3
                generalize wrq.drewN nq = wrqq at *
                obtain ⟨z0, z1, z2, z3⟩ := HR.out.2.1
                obtain ⟨c0, c1⟩ := HCL.out _ HR.out.1
                go_wp2_with (at_builtin; refine wpList_append_own _ rfl _ _ 31 rfl (w.heap.size + 1) 44 i0 _ 2 16 Try.underlying31 hi hz0 hz1 hz2 rfl (by decide) _ _ _ rfl (HR.out.2.2.alloc _) ⟨wrqq.heap.size, 0, none⟩ 1 1 [.int .i64 f, .int .i64 t] rfl rfl ?g1 ?g2 ?g3 ?g4 ?g5 ?_)
                try (case g1 => exact pair_new wrqq _ _ _ _ rfl)
                case g2 => simp [Value.oneCell']
                case g3 => unfold maxLen; first | omega | (simp; omega)
                case g4 => first | omega | (simp; omega)
                case g5 => have hx5 : w.heap.size < wrqq.heap.size := cell_in HR.out.2.1.a; first | omega | (simp; omega)
                intro v' wz hown1 hg1 _
                have wzH := Lib.hid (And.intro (grow_own (grownBy_trans HR.out.1 (World.grownBy_alloc wrqq (.cells #[.int .i64 f, .int .i64 t] 44) none)) hg1 (HR.out.2.2.alloc (.cells #[.int .i64 f, .int .i64 t] 44)) (Nat.le_succ _)) (And.intro ((HR.out.2.1.kept (World.grownBy_alloc wrqq (.cells #[.int .i64 f, .int .i64 t] 44) none) (by simp)).kept hg1 (fun e => by have := (HR.out.2.2.lt _ e.symm).1; omega)) (show wz.ownsRow (w.heap.size + 1) 44 2 v' (hs ++ [(f, t)]).length (rgsV (hs ++ [(f, t)])) by rw [rgsV_snoc, List.length_append, List.length_singleton]; first | exact hown1 | (rw [List.length_append, List.length_singleton]; exact hown1))))
                clear hown1 hg1
                go_wp2_with fail
                go_roundw
                case rel => exact ⟨j + 1, hs ++ [(f, t)], true, hlt, by go_num, rfl, wzH.out.1, wzH.out.2.1, wzH.out.2.2, HX.out, by simp only [List.length_append, List.length_singleton]; omega, by have := cell_in wzH.out.2.1.a; simp at this; omega⟩
                case measure => simp [intOf]; omega
                
        · obtain rfl : j = l.length := by omega
          have HE := HS.out.2.2.2
          rw [List.drop_length, emit] at HE
          have HP := Lib.hid (show putR l (p, m) = emit l (r, s) false by rw [putR, HXE.out])
          obtain ⟨z0, z1, z2, z3⟩ := HS.out.2.1
          cases bb
          · rw [if_neg (by simp)] at HE
            have HE := Lib.hid HE
            go_wp2_with (at_builtin; refine wpList_append_own _ rfl _ _ 31 rfl (w.heap.size + 1) 44 i0 _ 2 16 Try.underlying31 hi hz0 hz1 hz2 rfl (by decide) _ _ _ rfl (HS.out.2.2.1.alloc _) ⟨wr.heap.size, 0, none⟩ 1 1 [.int .i64 r, .int .i64 s] rfl rfl ?h1 ?h2 ?h3 ?h4 ?h5 ?_)
            try (case h1 => exact pair_new wr _ _ _ _ rfl)
            case h2 => simp [Value.oneCell']
            case h3 => unfold maxLen; first | omega | (simp; omega)
            case h4 => first | omega | (simp; omega)
            case h5 => have hx5 : w.heap.size < wr.heap.size := cell_in HS.out.2.1.a; first | omega | (simp; omega)
            intro v' wz hown1 hg1 _
            have wzH := Lib.hid (And.intro (grow_own (grownBy_trans HS.out.1 (World.grownBy_alloc wr (.cells #[.int .i64 r, .int .i64 s] 44) none)) hg1 (HS.out.2.2.1.alloc (.cells #[.int .i64 r, .int .i64 s] 44)) (Nat.le_succ _)) (And.intro ((HS.out.2.1.kept (World.grownBy_alloc wr (.cells #[.int .i64 r, .int .i64 s] 44) none) (by simp)).kept hg1 (fun e => by have := (HS.out.2.2.1.lt _ e.symm).1; omega)) (show wz.ownsRow (w.heap.size + 1) 44 2 v' (hs ++ [(r, s)]).length (rgsV (hs ++ [(r, s)])) by rw [rgsV_snoc, List.length_append, List.length_singleton]; first | exact hown1 | (rw [List.length_append, List.length_singleton]; exact hown1))))
            clear hown1 hg1
            go_wp2_with fail
            go_ret
            refine ⟨_, rfl, wzH.out.1, ?_⟩
            rw [HP.out, ← HE.out]
            exact own_base wzH.out.2.2 (Nat.le_succ _)
          · rw [if_pos rfl, List.append_nil] at HE
            have HE := Lib.hid HE
            go_wp2_with fail
            go_ret
            refine ⟨_, rfl, HS.out.1, ?_⟩
            rw [HP.out, ← HE.out]
            exact own_base HS.out.2.2.1 (Nat.le_succ _)

end Go.Proofs.Ytedhemllgpbheaa

namespace Go.Proofs.Ytedhemllgpbheaa
open Go.RowKit

noncomputable def sackL (u n : Int) (l ms : List Rg) : Int × Int × List Rg × Bool := @ite _ (bdOk u n l = true ∧ ms.length ≤ 3 ∧ bdOk u n (sackF u n l ms) = true) (Classical.propDecidable _) (u, n, sackF u n l ms, true) noBd
theorem sackL_yes {u n : Int} {l ms : List Rg} (h : bdOk u n l = true ∧ ms.length ≤ 3 ∧ bdOk u n (sackF u n l ms) = true) : sackL u n l ms = (u, n, sackF u n l ms, true) := if_pos h
theorem sackL_no {u n : Int} {l ms : List Rg} (h : ¬ (bdOk u n l = true ∧ ms.length ≤ 3 ∧ bdOk u n (sackF u n l ms) = true)) : sackL u n l ms = noBd := if_neg h
theorem sackL_len (u n : Int) (l ms : List Rg) : (sackL u n l ms).2.2.1.length ≤ 40 := by
  unfold sackL
  split
  · rename_i h
    exact (bd_of h.2.2).2.2.2.1
  · simp

theorem own_setN {w : World} {B C o c : Nat} {a : Option Addr} {v : Value} {l : List Rg} (h : OwnRg w B a c l) (hne : ∀ g, Value.ownBlock (.slice a l.length c) = some g → g ≠ C) : OwnRg (w.setCell ⟨C, o, none⟩ v) B a c l := by
  refine h.kept (grownBy_set w C o v) ?_
  cases hv : Value.ownBlock (.slice a l.length c) with
  | none => exact .inl rfl
  | some g => exact .inr fun e => hne g hv (by simpa using e)

end Go.Proofs.Ytedhemllgpbheaa

namespace Go.Proofs.Ytedhemllgpbheaa
open Go.RowKit

def SsRel (w : World) (S O : Nat) (u n : Int) (a : Option Addr) (c : Nat) (l ms : List Rg) (i : Value) (wr : World) : Prop :=
  ∃ (j : Nat) (ao : Option Addr) (cc : Nat), j ≤ ms.length ∧ i = .int .i64 (j : Int) ∧ Mine w (bdCells w.heap.size (.int .i64 u) (.int .i64 n) (.slice a l.length c) ++ bdCells (w.heap.size + 1) (.int .i64 0) (.int .i64 0) (.slice none 0 0) ++ bdCells O (.int .i64 u) (.int .i64 n) (.slice ao (sackF u n l (ms.take j)).length cc)) wr ∧ OwnRg wr S ao cc (sackF u n l (ms.take j)) ∧ (∀ g, Value.ownBlock (.slice ao (sackF u n l (ms.take j)).length cc) = some g → g ≠ O)

set_option maxRecDepth 100000 in
set_option maxHeartbeats 8000000 in
theorem sack_spec (u n : Int) (a : Option Addr) (c : Nat) (l : List Rg) (a2 : Option Addr) (c2 : Nat) (ms : List Rg) (w : World) (h : RowOk w a c l) (hl0 : l.length ≤ 9223372036854775807) (hm : RgAt w a2 ms) (hml : ms.length ≤ 9223372036854775807) :
    Calls Try.prog 53 #[bdV u n a l.length c, .slice a2 ms.length c2] w (BdPost w (sackL u n l ms)) := by
  have hM := bd_two w (.int .i64 u) (.int .i64 n) (.slice a l.length c) (.int .i64 0) (.int .i64 0) (.slice none 0 0) 50 50
  have HM := Lib.hid (And.intro hM (And.intro (h.kept hM.grown) hm))
  clear hM h hm
  cases hok : bdOk u n l
  · have HN := Lib.hid (show sackL u n l ms = noBd from sackL_no (by rw [hok]; simp))
    have HK := Lib.hid hok
    clear hok
    go_enter Try.func53, Try.ntmps53
    go_wp2_with fail
    refine (bd_ok_spec _ _ _ _ _ _ HM.out.2.1.at hl0).mono ?_
    rintro e w3 ⟨rfl, hg⟩
    rw [HK.out]
    have H3 := Lib.hid (HM.out.1.kept hg)
    clear hg
    obtain ⟨b0, b1, b2⟩ := bd_facts H3.out.left
    obtain ⟨r0, r1, r2⟩ := bd_facts H3.out.right
    obtain ⟨f0, f1, f2⟩ := bd_frees H3.out.right
    go_wp2_with fail
    have hgr := res3_grown (R := w.heap.size + 1) (.int .i64 0) (.int .i64 0) (.slice none 0 0) H3.out.grown (by omega)
    refine bodyPost_ret (v := .tuple #[bdV 0 0 none 0 0, .bool false]) ?_ rfl (bd_as HN.out ⟨none, 0, rfl, hgr, own_none _ _⟩)
    simp [results, Try.results53, go_sem, r0, r1, r2]
  · have hp := bd_of hok
    have hl := hp.2.2.2.1
    have hu0 := hp.1
    have hun := hp.2.1
    have hn9 := hp.2.2.1
    have HP := Lib.hid hp
    have HK := Lib.hid hok
    clear hok hp
    by_cases h3 : 3 < ms.length
    · have h3' : 3 < (ms.length : Int) := by omega
      have HN := Lib.hid (show sackL u n l ms = noBd from sackL_no (fun h => by have := h.2.1; omega))
      go_enter Try.func53, Try.ntmps53
      go_wp2_with fail
      refine (bd_ok_spec _ _ _ _ _ _ HM.out.2.1.at hl0).mono ?_
      rintro e w3 ⟨rfl, hg⟩
      rw [HK.out]
      have H3 := Lib.hid (HM.out.1.kept hg)
      clear hg
      obtain ⟨b0, b1, b2⟩ := bd_facts H3.out.left
      obtain ⟨r0, r1, r2⟩ := bd_facts H3.out.right
      obtain ⟨f0, f1, f2⟩ := bd_frees H3.out.right
      go_wp2_with fail
      have hgr := res3_grown (R := w.heap.size + 1) (.int .i64 0) (.int .i64 0) (.slice none 0 0) H3.out.grown (by omega)
      refine bodyPost_ret (v := .tuple #[bdV 0 0 none 0 0, .bool false]) ?_ rfl (bd_as HN.out ⟨none, 0, rfl, hgr, own_none _ _⟩)
      simp [results, Try.results53, go_sem, r0, r1, r2]
    · have h3' : ¬ 3 < (ms.length : Int) := by omega
      have hw1 : IntKind.i64.wrap (u + 1) = u + 1 := IntWalk.i64_in _ (by omega)
      have hw2 : IntKind.i64.wrap (n - 1) = n - 1 := IntWalk.i64_in _ (by omega)
      go_enter Try.func53, Try.ntmps53
      go_wp2_with fail
      refine (bd_ok_spec _ _ _ _ _ _ HM.out.2.1.at hl0).mono ?_
      rintro e w3 ⟨rfl, hg⟩
      rw [HK.out]
      have H3 := Lib.hid (And.intro (HM.out.1.kept hg) (HM.out.2.1.kept hg))
      have s3 : w.heap.size + 1 < w3.heap.size := cell_in (bd_facts (HM.out.1.kept hg).right).1
      clear hg
      obtain ⟨b0, b1, b2⟩ := bd_facts H3.out.1.left
      go_wp2_with fail
      refine (copy_any _ _ _ _ _ _ H3.out.2 (by omega)).mono ?_
      rintro e w4 ⟨ao, cc, rfl, hg, ho⟩
      have hM4 := H3.out.1.kept hg
      have hO := bd_new w4 (.int .i64 u) (.int .i64 n) (.slice ao l.length cc) 50
      have s4 : w3.heap.size ≤ w4.heap.size := hg.size
      have H5 := Lib.hid (And.intro ((hM4.kept hO.grown).app (hO.base hM4.grown)) (And.intro (own_kept ho hO.grown) (fun g (e : Value.ownBlock (.slice ao l.length cc) = some g) => Nat.ne_of_lt (ho.lt g e).2)))
      clear hg ho b0 b1 b2 hM4 hO
      go_wp2_with fail
      generalize hw5 : w4.alloc (.cells #[.int .i64 u, .int .i64 n, .slice ao l.length cc] 50) = w5 at *
      clear hw5
      go_loopw [7] (fun i wr => SsRel w w3.heap.size w4.heap.size u n a c l ms i wr) (fun i _ => ms.length - (intOf i).toNat)
      case atStart => exact ⟨0, ao, cc, Nat.zero_le _, rfl, H5.out.1, H5.out.2.1, H5.out.2.2⟩
      case round =>
        clear H5
        obtain ⟨j, ao, cc, hj, rfl, hm, ho, hne⟩ := hrel
        have HS := Lib.hid (And.intro hm (And.intro ho hne))
        clear hm ho hne
        obtain ⟨b0, b1, b2⟩ := bd_facts HS.out.1.left.left
        obtain ⟨o0, o1, o2⟩ := bd_facts HS.out.1.right
        have hB : w.heap.size < wr.heap.size := cell_in b0
        have hB4 : w4.heap.size < wr.heap.size := cell_in o0
        have hTl := sackF_len u n (ms.take j) l
        have HTG := Lib.hid (sackF_good u n (ms.take j) l (bdP_good HP.out))
        have h33 : (ms.take j).length ≤ 3 := by rw [List.length_take]; omega
        have hTl2 : (sackF u n l (ms.take j)).length ≤ 43 := by omega
        by_cases hlt : j < ms.length
        · rcases (HM.out.2.2.kept HS.out.1.grown) with hn | ⟨b, off, rfl, hb, hc⟩
          · rw [hn] at hlt
            simp at hlt
          · obtain ⟨c0, c1⟩ := hc j hlt
            clear hc
            have hlt' : (j : Int) < (ms.length : Int) := by omega
            have hj0 : (0 : Int) ≤ (j : Int) := by omega
            have HNX := Lib.hid (sackF_next u n ms l j hlt)
            generalize ms[j] = z at *
            obtain ⟨f, t⟩ := z
            dsimp only at c0 c1
            generalize hTT : sackF u n l (ms.take j) = T at *
            clear hTT hTl
            have HA := Lib.hid (And.intro (HS.out.1.kept (World.grownBy_alloc wr (.cells #[.int .i64 f, .int .i64 t] 44) none)) (own_kept HS.out.2.1 (World.grownBy_alloc wr (.cells #[.int .i64 f, .int .i64 t] 44) none)))
            cases i1 : inB f (u + 1) (n - 1)
            · have I1 := Lib.hid i1
              have HX := Lib.hid (show sackF u n l (ms.take (j + 1)) = T by rw [HNX.out, if_neg (fun h : rg1 u n (f, t) => in_not i1 ⟨by have := h.1; simp only at this; omega, by have := h.2.1; have := h.2.2; simp only at *; omega⟩)])
              clear i1
              go_wp2_with (go_at_call 21; refine (in_any _ _ _ _).mono ?_; rintro e w' ⟨rfl, rfl⟩; rw [I1.out])
              go_roundw
              case rel => exact ⟨j + 1, ao, cc, hlt, by go_num, by rw [HX.out]; exact HA.out.1, by rw [HX.out]; exact HA.out.2, by rw [HX.out]; exact HS.out.2.2⟩
              case measure => simp [intOf]; omega
            · have I1 := Lib.hid i1
              have g1 := in_of i1
              clear i1
              have hw3 : IntKind.i64.wrap (f + 1) = f + 1 := IntWalk.i64_in _ (by omega)
              cases i2 : inB t (f + 1) n
              · have I2 := Lib.hid i2
                have HX := Lib.hid (show sackF u n l (ms.take (j + 1)) = T by rw [HNX.out, if_neg (fun h : rg1 u n (f, t) => in_not i2 ⟨by have := h.2.1; simp only at this; omega, h.2.2⟩)])
                clear i2
                go_wp2_with (go_at_call 21; refine (in_any _ _ _ _).mono ?_; rintro e w' ⟨rfl, rfl⟩; first | rw [I1.out] | rw [I2.out])
                go_roundw
                case rel => exact ⟨j + 1, ao, cc, hlt, by go_num, by rw [HX.out]; exact HA.out.1, by rw [HX.out]; exact HA.out.2, by rw [HX.out]; exact HS.out.2.2⟩
                case measure => simp [intOf]; omega
              · have I2 := Lib.hid i2
                have g2 := in_of i2
                clear i2
                have HX := Lib.hid (show sackF u n l (ms.take (j + 1)) = putR T (f, t) by rw [HNX.out, if_pos (show rg1 u n (f, t) from ⟨by show u < f; omega, by show f < t; omega, by show t ≤ n; omega⟩), with_put T (f, t) HTG.out (by show f < t; omega)])
                go_wp2_with (go_at_call 21; refine (in_any _ _ _ _).mono ?_; rintro e w' ⟨rfl, rfl⟩; first | rw [I1.out] | rw [I2.out])
                refine (put_any _ _ _ _ _ _ (rg_own HA.out.2) (by omega)).mono ?_
                rintro e w9 ⟨v9, rfl, hg, ho⟩
                obtain ⟨ao9, cc9, rfl⟩ := own_slice ho
                have hm9 := HA.out.1.kept hg
                have e5 := alloc_size wr (.cells #[.int .i64 f, .int .i64 t] 44)
                have hput := (bd_put hm9 (two_far (by omega) (by omega))).2.2 (.slice ao9 (putR T (f, t)).length cc9)
                have hne9 : ∀ g, Value.ownBlock (.slice ao9 (putR T (f, t)).length cc9) = some g → g ≠ w4.heap.size := fun g e => by have := (ho.lt g e).1; omega
                have H9 := Lib.hid (And.intro hput (And.intro (own_setN (o := 2) (v := .slice ao9 (putR T (f, t)).length cc9) (own_base ho (show w3.heap.size ≤ _ by omega)) hne9) hne9))
                obtain ⟨p0, p1, p2⟩ := bd_facts hm9.right
                obtain ⟨q0, q1, q2⟩ := bd_frees hm9.right
                clear hg ho hm9 hput hne9 b0 b1 b2 c0 c1 o0 o1 o2 e5
                go_wp2_with fail
                go_roundw
                case rel => exact ⟨j + 1, ao9, cc9, hlt, by go_num, by rw [HX.out]; exact H9.out.1, by rw [HX.out]; exact H9.out.2.1, by rw [HX.out]; exact H9.out.2.2⟩
                case measure => simp [intOf]; omega
        · obtain rfl : j = ms.length := by omega
          rw [List.take_length] at HS hTl2
          rw [List.take_length] at o2
          generalize hTT : sackF u n l ms = T at *
          have HTT := Lib.hid hTT
          clear hTT hTl
          go_wp2_with fail
          refine (bd_ok_spec _ _ _ _ _ _ (rg_own HS.out.2.1) (by omega)).mono ?_
          rintro e w6 ⟨rfl, hg⟩
          have H6 := Lib.hid (And.intro (HS.out.1.kept hg) (own_kept HS.out.2.1 hg))
          clear hg b0 b1 b2 o0 o1 o2
          obtain ⟨r0, r1, r2⟩ := bd_facts H6.out.1.left.right
          obtain ⟨f0, f1, f2⟩ := bd_frees H6.out.1.left.right
          obtain ⟨o0, o1, o2⟩ := bd_facts H6.out.1.right
          cases hok2 : bdOk u n T
          · have HN := Lib.hid (show sackL u n l ms = noBd from sackL_no (fun h => by have := h.2.2; rw [HTT.out, hok2] at this; cases this))
            clear hok2
            go_wp2_with fail
            have hgr := res3_grown (R := w.heap.size + 1) (.int .i64 0) (.int .i64 0) (.slice none 0 0) H6.out.1.grown (by omega)
            refine bodyPost_ret (v := .tuple #[bdV 0 0 none 0 0, .bool false]) ?_ rfl (bd_as HN.out ⟨none, 0, rfl, hgr, own_none _ _⟩)
            simp [results, Try.results53, go_sem, r0, r1, r2]
          · have HN := Lib.hid (show sackL u n l ms = (u, n, T, true) by rw [sackL_yes ⟨HK.out, by omega, by rw [HTT.out]; exact hok2⟩, HTT.out])
            clear hok2
            go_wp2_with fail
            have hgr := res3_grown (R := w.heap.size + 1) (.int .i64 u) (.int .i64 n) (.slice ao T.length cc) H6.out.1.grown (by omega)
            refine bodyPost_ret (v := .tuple #[bdV u n ao T.length cc, .bool true]) ?_ rfl (bd_as HN.out ⟨ao, cc, rfl, hgr, ?_⟩)
            · simp [results, Try.results53, go_sem, r0, r1, r2]
            · exact own_base (own_setB (own_setB (own_setB H6.out.2 s3) s3) s3) (by omega)

end Go.Proofs.Ytedhemllgpbheaa

