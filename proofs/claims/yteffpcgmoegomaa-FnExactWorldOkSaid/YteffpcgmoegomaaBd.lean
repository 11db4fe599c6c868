/- Boards: which are right: the program's own test and the model's, over every board. -/
import Derived.Test.YteffpcgmoegomaaBr
namespace Go.Proofs.Yteffpcgmoegomaa
open Go.RowKit

abbrev bdV (u n : Int) (a : Option Addr) (m c : Nat) : Value := .agg #[.int .i64 u, .int .i64 n, .slice a m c]
def rg1 (u n : Int) (x : Rg) : Prop := u < x.1 ∧ x.1 < x.2 ∧ x.2 ≤ n
instance (u n : Int) (x : Rg) : Decidable (rg1 u n x) := by unfold rg1; infer_instance
def RApart (l : List Rg) : Prop := ∀ i (h : i + 1 < l.length), (l[i]'(by omega)).2 < (l[i + 1]'h).1
def RApTo (l : List Rg) (j : Nat) : Prop := ∀ i (h : i + 1 < l.length), i + 1 < j → (l[i]'(by omega)).2 < (l[i + 1]'h).1
def bdP (u n : Int) (l : List Rg) : Prop := 0 ≤ u ∧ u ≤ n ∧ n ≤ 1000000000 ∧ l.length ≤ 40 ∧ (∀ x ∈ l, rg1 u n x) ∧ RApart l
noncomputable def bdOk (u n : Int) (l : List Rg) : Bool := @decide (bdP u n l) (Classical.propDecidable _)
theorem bd_yes {u n : Int} {l : List Rg} (h : bdP u n l) : bdOk u n l = true := by simpa [bdOk] using h
theorem bd_no {u n : Int} {l : List Rg} (h : ¬ bdP u n l) : bdOk u n l = false := by simpa [bdOk] using h
theorem bd_of {u n : Int} {l : List Rg} (h : bdOk u n l = true) : bdP u n l := by simpa [bdOk] using h
theorem bd_not {u n : Int} {l : List Rg} (h : bdOk u n l = false) : ¬ bdP u n l := by simpa [bdOk] using h

def bdCells (B : Nat) (x y z : Value) : List (Addr × Value) := [(⟨B, 0, none⟩, x), (⟨B, 1, none⟩, y), (⟨B, 2, none⟩, z)]
theorem bd_new (w : World) (x y z : Value) (T : TypeId) : Mine w (bdCells w.heap.size x y z) (w.alloc (.cells #[x, y, z] T)) := by
  refine ⟨World.grownBy_alloc _ _ _, ?_⟩
  intro c hc
  simp only [bdCells, List.mem_cons, List.not_mem_nil, or_false] at hc
  rcases hc with rfl | rfl | rfl <;> exact ⟨by go_simp, by go_simp, by simp, rfl⟩
theorem bd_facts {w w' : World} {B : Nat} {x y z : Value} (hm : Mine w (bdCells B x y z) w') : w'.cell? ⟨B, 0, none⟩ = some x ∧ w'.cell? ⟨B, 1, none⟩ = some y ∧ w'.cell? ⟨B, 2, none⟩ = some z :=
  ⟨hm.cell _ _ (by simp [bdCells]), hm.cell _ _ (by simp [bdCells]), hm.cell _ _ (by simp [bdCells])⟩
theorem bd_frees {w w' : World} {B : Nat} {x y z : Value} (hm : Mine w (bdCells B x y z) w') : w'.frozen? ⟨B, 0, none⟩ = false ∧ w'.frozen? ⟨B, 1, none⟩ = false ∧ w'.frozen? ⟨B, 2, none⟩ = false :=
  ⟨hm.free ⟨B, 0, none⟩ x (by simp [bdCells]), hm.free ⟨B, 1, none⟩ y (by simp [bdCells]), hm.free ⟨B, 2, none⟩ z (by simp [bdCells])⟩

set_option maxRecDepth 100000 in
theorem can_any (u n f t : Int) (a : Option Addr) (m c : Nat) (w : World) : Calls Try.prog 57 #[bdV u n a m c, .agg #[.int .i64 f, .int .i64 t]] w fun e w' => e = .returned (.bool (decide (rg1 u n (f, t)))) ∧ w.grownBy w' none := by
  by_cases h1 : u < f
  · by_cases h2 : f < t
    · by_cases h3 : t ≤ n
      all_goals
        go_enter Try.func57, Try.ntmps57
        go_wp2
        go_ret
        exact ⟨ret_b (by first | exact (decide_eq_true (show rg1 u n (f, t) from ⟨h1, h2, h3⟩)).symm | exact (decide_eq_false (fun h : rg1 u n (f, t) => by have := h.2.2; simp only at this; omega)).symm), grownBy_trans (World.grownBy_alloc _ _ _) (World.grownBy_alloc _ _ _)⟩
    · go_enter Try.func57, Try.ntmps57
      go_wp2
      go_ret
      exact ⟨ret_b (decide_eq_false (fun h : rg1 u n (f, t) => by have := h.2.1; simp only at this; omega)).symm, grownBy_trans (World.grownBy_alloc _ _ _) (World.grownBy_alloc _ _ _)⟩
  · go_enter Try.func57, Try.ntmps57
    go_wp2
    go_ret
    exact ⟨ret_b (decide_eq_false (fun h : rg1 u n (f, t) => by have := h.1; simp only at this; omega)).symm, grownBy_trans (World.grownBy_alloc _ _ _) (World.grownBy_alloc _ _ _)⟩

set_option maxRecDepth 100000 in
theorem rstart_any (f t : Int) (w : World) : Calls Try.prog 124 #[.agg #[.int .i64 f, .int .i64 t]] w fun e w' => e = .returned (.int .i64 f) ∧ w.grownBy w' none := by
  go_enter Try.func124, Try.ntmps124
  go_wp2
  go_ret
  exact ⟨rfl, World.grownBy_alloc _ _ _⟩

set_option maxRecDepth 100000 in
theorem rend_any (f t : Int) (w : World) : Calls Try.prog 123 #[.agg #[.int .i64 f, .int .i64 t]] w fun e w' => e = .returned (.int .i64 t) ∧ w.grownBy w' none := by
  go_enter Try.func123, Try.ntmps123
  go_wp2
  go_ret
  exact ⟨rfl, World.grownBy_alloc _ _ _⟩

@[go_sem] theorem rmeth_start (v : Value) (w : World) : (method 265 64 v "loop.example/g00559/impl.start").run Try.prog w = .ok (124, v) w := by kernel_rfl

@[go_sem] theorem rmeth_end (v : Value) (w : World) : (method 265 64 v "loop.example/g00559/impl.end").run Try.prog w = .ok (123, v) w := by kernel_rfl

def RApRel (w : World) (l : List Rg) (i : Value) (wr : World) : Prop :=
  ∃ k : Nat, (k + 1 ≤ l.length ∨ k = 0) ∧ i = .int .i64 ((k : Int) + 1) ∧ w.grownBy wr none ∧ RApTo l (k + 1)

set_option maxRecDepth 100000 in
set_option maxHeartbeats 1000000 in
theorem rapart_any (a : Option Addr) (c : Nat) (l : List Rg) (w : World) (h : RgAt w a l) (hl : l.length ≤ 1000000) : Calls Try.prog 58 #[.slice a l.length c] w fun e w' => e = .returned (.bool (@decide (RApart l) (Classical.propDecidable _))) ∧ w.grownBy w' none := by
  have H := Lib.hid h
  clear h
  go_enter Try.func58, Try.ntmps58
  go_wp2_with fail
  go_loopw [3] (fun i wr => RApRel w l i wr) (fun i _ => l.length + 1 - (intOf i).toNat)
  case atStart => exact ⟨0, .inr rfl, rfl, World.grownBy.refl _ _, fun i h h2 => absurd h2 (by omega)⟩
  case round =>
    obtain ⟨k, hk, rfl, hg, hall⟩ := hrel
    have HS := Lib.hid (And.intro hg hall)
    clear hg hall
    by_cases hlt : k + 1 < l.length
    · rcases (H.out.kept HS.out.1) with h0 | ⟨b, off, rfl, hb, hc⟩
      · rw [h0] at hlt
        simp at hlt
      · obtain ⟨c0, c1⟩ := hc k (by omega)
        obtain ⟨d0, d1⟩ := hc (k + 1) hlt
        clear hc
        have hgp : (l[k].2 < l[k + 1].1 ∧ Hid (RApTo l (k + 1 + 1))) ∨ (l[k + 1].1 ≤ l[k].2 ∧ Hid (¬ RApart l)) := by
          by_cases hh : l[k].2 < l[k + 1].1
          · refine .inl ⟨hh, Lib.hid fun i h h2 => ?_⟩
            by_cases e : i = k
            · subst e; exact hh
            · exact HS.out.2 i h (by omega)
          · exact .inr ⟨by omega, Lib.hid fun ha => hh (ha k hlt)⟩
        generalize l[k] = x at *
        generalize l[k + 1] = y at *
        obtain ⟨t, m⟩ := x
        obtain ⟨t2, m2⟩ := y
        dsimp only at c0 c1 d0 d1
        have hlt' : (k : Int) + 1 < (l.length : Int) := by omega
        have hk0 : (0 : Int) ≤ (k : Int) := by omega
        have hj0 : (0 : Int) ≤ (k : Int) + 1 := by omega
        have hj1 : (k : Int) < (l.length : Int) := by omega
        have hj3 : k < l.length := by omega
        have hj4 : IntKind.i64.wrap (k : Int) = k := IntWalk.i64_in _ (by omega)
        have hj2 : ((k : Int) + 1).toNat = k + 1 := by omega
        have hw1 : IntKind.i64.wrap ((k : Int) + 1 - 1) = k := by rw [IntWalk.i64_in _ (by omega)]; omega
        have z0 := grownBy_trans HS.out.1 (grownBy_drew (r := none))
        dsimp only at hgp
        rcases hgp with ⟨hgp, HX⟩ | ⟨hgp, HX⟩
        · have hgp' : ¬ t2 ≤ m := by omega
          go_wp2_with fail
          go_region_held3 (fun w' => w'.cell? ⟨b, off + k * 2, none⟩ = some (.int .i64 t) ∧ w'.cell? ⟨b, off + k * 2 + 1, none⟩ = some (.int .i64 m) ∧ w'.cell? ⟨b, off + (k + 1) * 2, none⟩ = some (.int .i64 t2) ∧ w'.cell? ⟨b, off + (k + 1) * 2 + 1, none⟩ = some (.int .i64 m2) ∧ w.grownBy w' none) ((refine ⟨by first | assumption | (simp [*]; done), by first | assumption | (simp [*]; done), by first | assumption | (simp [*]; done), by first | assumption | (simp [*]; done), by assumption⟩))
            (first
              | (go_at_call 124; refine (rstart_any _ _ _).mono ?_; rintro e w9 ⟨rfl, hg⟩; have q0 := hg.cell (a := ⟨b, off + k * 2, none⟩) (v := .int .i64 t) (by first | assumption | (simp [*]; done)) (by simp); have q1 := hg.cell (a := ⟨b, off + k * 2 + 1, none⟩) (v := .int .i64 m) (by first | assumption | (simp [*]; done)) (by simp); have q2 := hg.cell (a := ⟨b, off + (k + 1) * 2, none⟩) (v := .int .i64 t2) (by first | assumption | (simp [*]; done)) (by simp); have q3 := hg.cell (a := ⟨b, off + (k + 1) * 2 + 1, none⟩) (v := .int .i64 m2) (by first | assumption | (simp [*]; done)) (by simp); have q4 := grownBy_trans (a := w) (by assumption) hg)
              | (go_at_call 123; refine (rend_any _ _ _).mono ?_; rintro e w8 ⟨rfl, hg⟩; have r0 := hg.cell (a := ⟨b, off + k * 2, none⟩) (v := .int .i64 t) (by first | assumption | (simp [*]; done)) (by simp); have r1 := hg.cell (a := ⟨b, off + k * 2 + 1, none⟩) (v := .int .i64 m) (by first | assumption | (simp [*]; done)) (by simp); have r2 := hg.cell (a := ⟨b, off + (k + 1) * 2, none⟩) (v := .int .i64 t2) (by first | assumption | (simp [*]; done)) (by simp); have r3 := hg.cell (a := ⟨b, off + (k + 1) * 2 + 1, none⟩) (v := .int .i64 m2) (by first | assumption | (simp [*]; done)) (by simp); have r4 := grownBy_trans (a := w) (by assumption) hg))
          go_wp2_with fail
          go_roundw
          case rel => exact ⟨k + 1, .inl hlt, by go_num, by assumption, HX.out⟩
          case measure => simp [intOf]; omega
        · skip
          go_wp2_with fail
          go_region_held3 (fun w' => w'.cell? ⟨b, off + k * 2, none⟩ = some (.int .i64 t) ∧ w'.cell? ⟨b, off + k * 2 + 1, none⟩ = some (.int .i64 m) ∧ w'.cell? ⟨b, off + (k + 1) * 2, none⟩ = some (.int .i64 t2) ∧ w'.cell? ⟨b, off + (k + 1) * 2 + 1, none⟩ = some (.int .i64 m2) ∧ w.grownBy w' none) ((refine ⟨by first | assumption | (simp [*]; done), by first | assumption | (simp [*]; done), by first | assumption | (simp [*]; done), by first | assumption | (simp [*]; done), by assumption⟩))
            (first
              | (go_at_call 124; refine (rstart_any _ _ _).mono ?_; rintro e w9 ⟨rfl, hg⟩; have q0 := hg.cell (a := ⟨b, off + k * 2, none⟩) (v := .int .i64 t) (by first | assumption | (simp [*]; done)) (by simp); have q1 := hg.cell (a := ⟨b, off + k * 2 + 1, none⟩) (v := .int .i64 m) (by first | assumption | (simp [*]; done)) (by simp); have q2 := hg.cell (a := ⟨b, off + (k + 1) * 2, none⟩) (v := .int .i64 t2) (by first | assumption | (simp [*]; done)) (by simp); have q3 := hg.cell (a := ⟨b, off + (k + 1) * 2 + 1, none⟩) (v := .int .i64 m2) (by first | assumption | (simp [*]; done)) (by simp); have q4 := grownBy_trans (a := w) (by assumption) hg)
              | (go_at_call 123; refine (rend_any _ _ _).mono ?_; rintro e w8 ⟨rfl, hg⟩; have r0 := hg.cell (a := ⟨b, off + k * 2, none⟩) (v := .int .i64 t) (by first | assumption | (simp [*]; done)) (by simp); have r1 := hg.cell (a := ⟨b, off + k * 2 + 1, none⟩) (v := .int .i64 m) (by first | assumption | (simp [*]; done)) (by simp); have r2 := hg.cell (a := ⟨b, off + (k + 1) * 2, none⟩) (v := .int .i64 t2) (by first | assumption | (simp [*]; done)) (by simp); have r3 := hg.cell (a := ⟨b, off + (k + 1) * 2 + 1, none⟩) (v := .int .i64 m2) (by first | assumption | (simp [*]; done)) (by simp); have r4 := grownBy_trans (a := w) (by assumption) hg))
          go_wp2_with fail
          go_ret
          exact ⟨ret_b (by simpa using HX.out), by assumption⟩
    · have hlt' : ¬ (k : Int) + 1 < (l.length : Int) := by omega
      have HX := Lib.hid (show RApart l from fun i h => HS.out.2 i h (by omega))
      go_wp2_with fail
      go_ret
      exact ⟨ret_b (by simpa using HX.out), HS.out.1⟩

def BdRel (w : World) (u n : Int) (a : Option Addr) (c : Nat) (l : List Rg) (i : Value) (wr : World) : Prop :=
  ∃ j : Nat, j ≤ l.length ∧ i = .int .i64 j ∧ Mine w (bdCells w.heap.size (.int .i64 u) (.int .i64 n) (.slice a l.length c)) wr ∧ ∀ x ∈ l.take j, rg1 u n x

set_option maxRecDepth 100000 in
set_option maxHeartbeats 1000000 in
theorem bd_ok_impl (u n : Int) (a : Option Addr) (c : Nat) (l : List Rg) (w : World) (h : RgAt w a l) : Calls Try.prog 36 #[bdV u n a l.length c] w fun e w' => e = .returned (.bool (bdOk u n l)) ∧ w.grownBy w' none := by
  have H := Lib.hid h
  clear h
  by_cases h1 : u < 0
  · go_enter Try.func36, Try.ntmps36
    go_wp2_with fail
    go_ret
    exact ⟨ret_b (bd_no (fun h => by have := h.1; omega)).symm, World.grownBy_alloc _ _ _⟩
  · by_cases h2 : n < u
    · go_enter Try.func36, Try.ntmps36
      go_wp2_with fail
      go_ret
      exact ⟨ret_b (bd_no (fun h => by have := h.2.1; omega)).symm, World.grownBy_alloc _ _ _⟩
    · by_cases h3 : 1000000000 < n
      · go_enter Try.func36, Try.ntmps36
        go_wp2_with fail
        go_ret
        exact ⟨ret_b (bd_no (fun h => by have := h.2.2.1; omega)).symm, World.grownBy_alloc _ _ _⟩
      · by_cases h4 : 40 < (l.length : Int)
        · go_enter Try.func36, Try.ntmps36
          go_wp2_with fail
          go_ret
          exact ⟨ret_b (bd_no (fun h => by have := h.2.2.2.1; omega)).symm, World.grownBy_alloc _ _ _⟩
        · have HM := Lib.hid (bd_new w (.int .i64 u) (.int .i64 n) (.slice a l.length c) 36)
          go_enter Try.func36, Try.ntmps36
          go_wp2_with fail
          go_loopw [29] (fun i wr => BdRel w u n a c l i wr) (fun i _ => l.length - (intOf i).toNat)
          case atStart => exact ⟨0, Nat.zero_le _, rfl, HM.out, by simp⟩
          case round =>
            obtain ⟨j, hj, rfl, hm, hall⟩ := hrel
            have HS := Lib.hid (And.intro hm hall)
            clear hm hall HM
            obtain ⟨b0, b1, b2⟩ := bd_facts HS.out.1
            have hB : w.heap.size < wr.heap.size := cell_in b0
            by_cases hlt : j < l.length
            · rcases (H.out.kept HS.out.1.grown) with h0 | ⟨b, off, rfl, hb, hc⟩
              · rw [h0] at hlt
                simp at hlt
              · obtain ⟨c0, c1⟩ := hc j hlt
                clear hc
                have HX := Lib.hid (fun hx => all_next (P := rg1 u n) l j hlt HS.out.2 hx)
                have HY := Lib.hid (show ¬ rg1 u n l[j] → ¬ bdP u n l from fun hn hp => hn (hp.2.2.2.2.1 _ (List.getElem_mem hlt)))
                generalize l[j] = x at *
                obtain ⟨f, t⟩ := x
                have hlt' : (j : Int) < (l.length : Int) := by omega
                dsimp only at c0 c1
                by_cases ht : rg1 u n (f, t)
                · have HO := Lib.hid (HX.out ht)
                  have HT := Lib.hid ht
                  clear ht
                  go_wp2_with fail
                  refine (can_any _ _ _ _ _ _ _ _).mono ?_
                  rintro e w8 ⟨rfl, hg⟩
                  rw [decide_eq_true HT.out]
                  have H8 := Lib.hid (HS.out.1.kept (grownBy_trans (World.grownBy_alloc _ _ _) hg))
                  clear hg
                  go_wp2_with fail
                  go_roundw
                  case rel => exact ⟨j + 1, hlt, by go_num, H8.out, HO.out⟩
                  case measure => simp [intOf]; omega
                · have HO := Lib.hid (HY.out ht)
                  have HT := Lib.hid ht
                  clear ht
                  go_wp2_with fail
                  refine (can_any _ _ _ _ _ _ _ _).mono ?_
                  rintro e w8 ⟨rfl, hg⟩
                  rw [decide_eq_false HT.out]
                  have H8 := Lib.hid (HS.out.1.kept (grownBy_trans (World.grownBy_alloc _ _ _) hg))
                  clear hg
                  go_wp2_with fail
                  go_ret
                  exact ⟨ret_b (bd_no HO.out).symm, H8.out.grown⟩
            · obtain rfl : j = l.length := by omega
              have HA := Lib.hid (show ∀ x ∈ l, rg1 u n x from fun x hx => HS.out.2 x (by rw [List.take_length]; exact hx))
              go_wp2_with fail
              refine (rapart_any _ _ _ _ (H.out.kept HS.out.1.grown) (by omega)).mono ?_
              rintro e w8 ⟨rfl, hg⟩
              have H8 := Lib.hid (grownBy_trans HS.out.1.grown hg)
              clear hg
              go_wp2_with fail
              go_ret
              refine ⟨ret_b ?_, H8.out⟩
              by_cases hA : RApart l
              · rw [bd_yes ⟨by omega, by omega, by omega, by omega, HA.out, hA⟩]; simpa using hA
              · rw [bd_no fun hh => hA hh.2.2.2.2.2]; simpa using hA

end Go.Proofs.Yteffpcgmoegomaa
