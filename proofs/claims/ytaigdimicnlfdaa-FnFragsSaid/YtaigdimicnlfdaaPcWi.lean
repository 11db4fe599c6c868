/- One piece more: the program's sorted list. -/
import Derived.Test.YtaigdimicnlfdaaPcOv
import Derived.Test.YtaigdimicnlfdaaPcCc
import Derived.StillTailTactics
namespace Go.Proofs.Ytaigdimicnlfdaa
open Go.RowKit

/-- A slice of pieces as an argument: its cells, and room up to its capacity. -/
def RowOk (w : World) (a : Option Addr) (c : Nat) (l : List Pk) : Prop :=
  (a = none ∧ c = 0 ∧ l = []) ∨ ∃ b off, a = some ⟨b, off, none⟩ ∧ l.length ≤ c ∧ c ≤ 9223372036854775807 ∧ ∀ i (h : i < l.length), w.cell? ⟨b, off + i * 2, none⟩ = some (.int .i64 (l[i]).1) ∧ w.cell? ⟨b, off + i * 2 + 1, none⟩ = some (.string ⟨(l[i]).2.toArray⟩)
theorem RowOk.kept {w w' : World} {a : Option Addr} {c : Nat} {l : List Pk} (h : RowOk w a c l) (hg : w.grownBy w' none) : RowOk w' a c l := by
  rcases h with h | ⟨b, off, ha, hc, hm, hi⟩
  · exact .inl h
  · exact .inr ⟨b, off, ha, hc, hm, fun i h => ⟨hg.cell (hi i h).1 (by simp), hg.cell (hi i h).2 (by simp)⟩⟩
theorem RowOk.cells {w : World} {b off c : Nat} {l : List Pk} (h : RowOk w (some ⟨b, off, none⟩) c l) (i : Nat) (hi : i < l.length) : w.cell? ⟨b, off + i * 2, none⟩ = some (.int .i64 (l[i]).1) ∧ w.cell? ⟨b, off + i * 2 + 1, none⟩ = some (.string ⟨(l[i]).2.toArray⟩) := by
  rcases h with ⟨h, _⟩ | ⟨b', off', ha, _, _, hc⟩
  · cases h
  · cases ha; exact hc i hi
theorem pksV_at (l : List Pk) (j : Nat) (u : Value) (h : (pksV l)[j]? = some u) : ∃ i, ∃ hi : i < l.length, (j = i * 2 ∧ u = .int .i64 (l[i]).1) ∨ (j = i * 2 + 1 ∧ u = .string ⟨(l[i]).2.toArray⟩) := by
  have hj : j < l.length * 2 := by
    have := (List.getElem?_eq_some_iff.mp h).1
    rwa [pksV_len] at this
  refine ⟨j / 2, by omega, ?_⟩
  obtain ⟨h0, h1⟩ := pksV_get l (j / 2) (by omega)
  rcases Nat.mod_two_eq_zero_or_one j with hm | hm
  · left
    have e : j = j / 2 * 2 := by omega
    refine ⟨e, ?_⟩
    rw [← e, h] at h0
    exact Option.some.inj h0
  · right
    have e : j = j / 2 * 2 + 1 := by omega
    refine ⟨e, ?_⟩
    rw [← e, h] at h1
    exact Option.some.inj h1
theorem add_none (b off j : Nat) : (⟨b, off, none⟩ : Addr).add j = ⟨b, off + j, none⟩ := by
  by_cases e : j = 0
  · subst e; simp [Addr.add]
  · simp [Addr.add, e]
theorem sl_take {w : World} {b off c k : Nat} {l : List Pk} (h : RowOk w (some ⟨b, off, none⟩) c l) (hk : k ≤ l.length) : SlAt w (.slice (some ⟨b, off, none⟩) k c) (l.take k) := by
  refine .inr ⟨⟨b, off, none⟩, c, by rw [List.length_take, Nat.min_eq_left hk], fun j u hu => ?_⟩
  obtain ⟨i, hi, hh⟩ := pksV_at _ j u hu
  have hi2 : i < l.length := by rw [List.length_take] at hi; omega
  obtain ⟨c0, c1⟩ := h.cells i hi2
  rw [add_none]
  rcases hh with ⟨rfl, rfl⟩ | ⟨rfl, rfl⟩
  · rw [List.getElem_take]; exact c0
  · rw [List.getElem_take]; exact c1
theorem sl_drop {w : World} {b off c c' k n : Nat} {l : List Pk} (h : RowOk w (some ⟨b, off, none⟩) c l) (hk : k ≤ l.length) (hn : n = l.length - k) : SlAt w (.slice (some ⟨b, off + k * 2, none⟩) n c') (l.drop k) := by
  refine .inr ⟨⟨b, off + k * 2, none⟩, c', by rw [List.length_drop, hn], fun j u hu => ?_⟩
  obtain ⟨i, hi, hh⟩ := pksV_at _ j u hu
  have hi2 : k + i < l.length := by rw [List.length_drop] at hi; omega
  obtain ⟨c0, c1⟩ := h.cells (k + i) hi2
  rw [add_none]
  rcases hh with ⟨rfl, rfl⟩ | ⟨rfl, rfl⟩
  · rw [List.getElem_drop, show off + k * 2 + i * 2 = off + (k + i) * 2 by omega]; exact c0
  · rw [List.getElem_drop, show off + k * 2 + (i * 2 + 1) = off + (k + i) * 2 + 1 by omega]; exact c1
theorem two_set {w : World} {C : Nat} {x y x' y' : Value} (h : Two w C x y) : Two ((w.setCell ⟨C, 0, none⟩ x').setCell ⟨C, 1, none⟩ y') C x' y' := by
  obtain ⟨a, b, f, g⟩ := h
  exact ⟨by simp [go_sem, a], by simp [go_sem, b], by simp [f], by simp [g]⟩
theorem three_sl {W : World} {g : Nat} {s0 s1 s2 : Value} {l0 l1 l2 : List Pk} (c0 : W.cell? ⟨g, 0, none⟩ = some s0) (c1 : W.cell? ⟨g, 1, none⟩ = some s1) (c2 : W.cell? ⟨g, 2, none⟩ = some s2) (h0 : SlAt W s0 l0) (h1 : SlAt W s1 l1) (h2 : SlAt W s2 l2) : ∀ j (hj : j < [(s0, l0), (s1, l1), (s2, l2)].length), W.cell? ⟨g, j, none⟩ = some ([(s0, l0), (s1, l1), (s2, l2)][j]).1 ∧ SlAt W ([(s0, l0), (s1, l1), (s2, l2)][j]).1 ([(s0, l0), (s1, l1), (s2, l2)][j]).2
  | 0, _ => ⟨c0, h0⟩
  | 1, _ => ⟨c1, h1⟩
  | 2, _ => ⟨c2, h2⟩
theorem sl_one {W : World} {X : Nat} {r : Int} {s : List UInt8} (c0 : W.cell? ⟨X, 0, none⟩ = some (.int .i64 r)) (c1 : W.cell? ⟨X, 1, none⟩ = some (.string ⟨s.toArray⟩)) : SlAt W (.slice (some ⟨X, 0, none⟩) 1 1) [(r, s)] := by
  refine .inr ⟨⟨X, 0, none⟩, 1, rfl, fun j u hu => ?_⟩
  obtain ⟨i, hi, hh⟩ := pksV_at _ j u hu
  obtain rfl : i = 0 := by simp at hi; omega
  rcases hh with ⟨rfl, rfl⟩ | ⟨rfl, rfl⟩
  · rw [add_none]; exact c0
  · rw [add_none]; exact c1
theorem sl_end (w : World) (ad : Addr) (c' : Nat) (l : List Pk) : SlAt w (.slice (some ad) 0 c') (l.drop l.length) :=
  .inr ⟨ad, c', by rw [List.drop_length]; rfl, fun j u hu => by rw [List.drop_length] at hu; simp [pksV] at hu⟩
def W1Rel (w : World) (l : List Pk) (x : Pk) (i : Value) (wr : World) : Prop :=
  ∃ k : Nat, k ≤ l.length ∧ i = .int .i64 (k : Int) ∧ w.grownBy wr none ∧ Two wr w.heap.size (.int .i64 x.1) (.string ⟨x.2.toArray⟩) ∧ withL l x = l.take k ++ withL (l.drop k) x
def W2Rel (w : World) (l : List Pk) (x : Pk) (k : Nat) (i : Value) (wr : World) : Prop :=
  ∃ (j : Nat) (y : Pk), j ≤ l.length ∧ i = .int .i64 (j : Int) ∧ w.grownBy wr none ∧ Two wr w.heap.size (.int .i64 y.1) (.string ⟨y.2.toArray⟩) ∧ mergeR (l.drop k) x = mergeR (l.drop j) y ∧ 0 ≤ y.1 ∧ y.1 ≤ 6000 ∧ y.1 + (y.2.length : Int) ≤ 12000 ∧ ∀ q ∈ l.drop j, y.1 ≤ q.1 + (q.2.length : Int)

set_option maxRecDepth 100000 in
set_option maxHeartbeats 16000000 in
theorem with_some (b off c : Nat) (l : List Pk) (p : Int) (m : List UInt8) (w : World) (h : RowOk w (some ⟨b, off, none⟩) c l) (hlc0 : l.length ≤ c) (hcm : c ≤ 9223372036854775807) (hok : PcsP l) (hp0 : 0 ≤ p) (hp1 : p ≤ 5000) (hm1 : m.length ≤ 300) :
    Calls Try.prog 35 #[.slice (some ⟨b, off, none⟩) l.length c, .agg #[.int .i64 p, .string ⟨m.toArray⟩]] w (AddedPost w l (p, m)) := by
  have H := Lib.hid (And.intro h hok)
  have hl60 := hok.1
  have HT := Lib.hid (two_new w (.int .i64 p) (.string ⟨m.toArray⟩) 57)
  have HG := Lib.hid (World.grownBy_alloc w (.cells #[.int .i64 p, .string ⟨m.toArray⟩] 57) none)
  clear h hok
  go_enter Try.func35, Try.ntmps35
  go_wp2_with fail
  go_loopw [5] (fun i wr => W1Rel w l (p, m) i wr) (fun i _ => l.length - (intOf i).toNat)
  case atStart => exact ⟨0, Nat.zero_le _, rfl, HG.out, HT.out, by simp⟩
  case round =>
    obtain ⟨k, hk, rfl, hg, ht, hwl⟩ := hrel
    have HS := Lib.hid (And.intro hg (And.intro ht hwl))
    clear hg ht hwl
    by_cases hlt : k < l.length
    · obtain ⟨c0, c1⟩ := (H.out.1.kept HS.out.1).cells k hlt
      have hlt' : (k : Int) < (l.length : Int) := by omega
      have hk0 : (0 : Int) ≤ (k : Int) := by omega
      obtain ⟨q0, q1, q2, q3⟩ := H.out.2.2.1 _ (List.getElem_mem hlt)
      have HD := Lib.hid (List.drop_eq_getElem_cons hlt)
      have HTK := Lib.hid (List.take_succ_eq_append_getElem hlt)
      generalize l[k] = x at *
      obtain ⟨u, v⟩ := x
      dsimp only at c0 c1 q0 q1 q2 q3
      have z0 := HS.out.2.1.a
      have z1 := HS.out.2.1.b
      have z2 := grownBy_trans HS.out.1 (grownBy_drew (r := none))
      have z3 : wr.drew.grownBy wr.drew none := World.grownBy.refl _ _
      by_cases hcmp : u + (v.length : Int) < p
      · have HW := Lib.hid (show withL l (p, m) = l.take (k + 1) ++ withL (l.drop (k + 1)) (p, m) by rw [HS.out.2.2, HD.out, withL, if_pos hcmp, HTK.out, List.append_assoc]; rfl)
        go_wp2_with fail
        go_region_held3 (fun w' => w'.cell? ⟨b, off + k * 2, none⟩ = some (.int .i64 u) ∧ w'.cell? ⟨b, off + k * 2 + 1, none⟩ = some (.string ⟨v.toArray⟩) ∧ w'.cell? ⟨w.heap.size, 0, none⟩ = some (.int .i64 p) ∧ w'.cell? ⟨w.heap.size, 1, none⟩ = some (.string ⟨m.toArray⟩) ∧ w.grownBy w' none ∧ wr.drew.grownBy w' none) ((refine ⟨by first | assumption | (simp [*]; done), by first | assumption | (simp [*]; done), by first | assumption | (simp [*]; done), by first | assumption | (simp [*]; done), by assumption, by assumption⟩))
          (first
            | (go_at_call 29; refine (end_any u v _ q0 (by omega) (by omega)).mono ?_; rintro e w8 ⟨rfl, hg⟩; have y0 := hg.cell (a := ⟨b, off + k * 2, none⟩) (v := .int .i64 u) (by first | assumption | (simp [*]; done)) (by simp); have y1 := hg.cell (a := ⟨b, off + k * 2 + 1, none⟩) (v := .string ⟨v.toArray⟩) (by first | assumption | (simp [*]; done)) (by simp); have y2 := hg.cell (a := ⟨w.heap.size, 0, none⟩) (v := .int .i64 p) (by first | assumption | (simp [*]; done)) (by simp); have y3 := hg.cell (a := ⟨w.heap.size, 1, none⟩) (v := .string ⟨m.toArray⟩) (by first | assumption | (simp [*]; done)) (by simp); have y4 := grownBy_trans (a := w) (by assumption) hg; have y5 := grownBy_trans (a := wr.drew) (by assumption) hg)
            | (go_at_call 55; refine (start_any _ _ _).mono ?_; rintro e w8 ⟨rfl, hg⟩; have y0 := hg.cell (a := ⟨b, off + k * 2, none⟩) (v := .int .i64 u) (by first | assumption | (simp [*]; done)) (by simp); have y1 := hg.cell (a := ⟨b, off + k * 2 + 1, none⟩) (v := .string ⟨v.toArray⟩) (by first | assumption | (simp [*]; done)) (by simp); have y2 := hg.cell (a := ⟨w.heap.size, 0, none⟩) (v := .int .i64 p) (by first | assumption | (simp [*]; done)) (by simp); have y3 := hg.cell (a := ⟨w.heap.size, 1, none⟩) (v := .string ⟨m.toArray⟩) (by first | assumption | (simp [*]; done)) (by simp); have y4 := grownBy_trans (a := w) (by assumption) hg; have y5 := grownBy_trans (a := wr.drew) (by assumption) hg))
        rename_i hH
        have HR := Lib.hid (And.intro hH.2.2.2.2.1 hH.2.2.2.2.2)
        go_wp2_with fail
        go_roundw
        case rel => exact ⟨k + 1, hlt, by go_num, HR.out.1, (HS.out.2.1.kept (grownBy_drew (r := none)) (by simp)).kept HR.out.2 (by simp), HW.out⟩
        case measure => first | (simp [intOf]; done) | (simp [intOf]; omega)
      · have hcmp2 : decide (u + (v.length : Int) < p) = false := decide_eq_false hcmp
        have HW := Lib.hid (show withL l (p, m) = l.take k ++ mergeR (l.drop k) (p, m) by rw [HS.out.2.2, HD.out, withL, if_neg hcmp])
        have HLO := Lib.hid (show ∀ q ∈ l.drop k, p ≤ q.1 + (q.2.length : Int) from fun q hq => by
          have hgd := good_drop k H.out.2.good
          rw [HD.out] at hgd hq
          obtain ⟨_, bb, _⟩ := good_cons hgd
          rcases List.mem_cons.mp hq with rfl | hq
          · show p ≤ u + (v.length : Int); omega
          · have := bb q hq; unfold gap at this; simp only at this; omega)
        go_wp2_with fail
        go_region_held3 (fun w' => w'.cell? ⟨b, off + k * 2, none⟩ = some (.int .i64 u) ∧ w'.cell? ⟨b, off + k * 2 + 1, none⟩ = some (.string ⟨v.toArray⟩) ∧ w'.cell? ⟨w.heap.size, 0, none⟩ = some (.int .i64 p) ∧ w'.cell? ⟨w.heap.size, 1, none⟩ = some (.string ⟨m.toArray⟩) ∧ w.grownBy w' none ∧ wr.drew.grownBy w' none) ((refine ⟨by first | assumption | (simp [*]; done), by first | assumption | (simp [*]; done), by first | assumption | (simp [*]; done), by first | assumption | (simp [*]; done), by assumption, by assumption⟩))
          (first
            | (go_at_call 29; refine (end_any u v _ q0 (by omega) (by omega)).mono ?_; rintro e w8 ⟨rfl, hg⟩; have y0 := hg.cell (a := ⟨b, off + k * 2, none⟩) (v := .int .i64 u) (by first | assumption | (simp [*]; done)) (by simp); have y1 := hg.cell (a := ⟨b, off + k * 2 + 1, none⟩) (v := .string ⟨v.toArray⟩) (by first | assumption | (simp [*]; done)) (by simp); have y2 := hg.cell (a := ⟨w.heap.size, 0, none⟩) (v := .int .i64 p) (by first | assumption | (simp [*]; done)) (by simp); have y3 := hg.cell (a := ⟨w.heap.size, 1, none⟩) (v := .string ⟨m.toArray⟩) (by first | assumption | (simp [*]; done)) (by simp); have y4 := grownBy_trans (a := w) (by assumption) hg; have y5 := grownBy_trans (a := wr.drew) (by assumption) hg)
            | (go_at_call 55; refine (start_any _ _ _).mono ?_; rintro e w8 ⟨rfl, hg⟩; have y0 := hg.cell (a := ⟨b, off + k * 2, none⟩) (v := .int .i64 u) (by first | assumption | (simp [*]; done)) (by simp); have y1 := hg.cell (a := ⟨b, off + k * 2 + 1, none⟩) (v := .string ⟨v.toArray⟩) (by first | assumption | (simp [*]; done)) (by simp); have y2 := hg.cell (a := ⟨w.heap.size, 0, none⟩) (v := .int .i64 p) (by first | assumption | (simp [*]; done)) (by simp); have y3 := hg.cell (a := ⟨w.heap.size, 1, none⟩) (v := .string ⟨m.toArray⟩) (by first | assumption | (simp [*]; done)) (by simp); have y4 := grownBy_trans (a := w) (by assumption) hg; have y5 := grownBy_trans (a := wr.drew) (by assumption) hg))
        rename_i hH
        have HR := Lib.hid (And.intro hH.2.2.2.2.1 ((HS.out.2.1.kept (grownBy_drew (r := none)) (by simp)).kept hH.2.2.2.2.2 (by simp)))
        clear hH c0 c1 z0 z1 z2 z3
        go_wp2_with fail
        go_loopw [6] (fun i wr2 => W2Rel w l (p, m) k i wr2) (fun i _ => l.length - (intOf i).toNat)
        case atStart => exact ⟨k, (p, m), by omega, rfl, HR.out.1, HR.out.2, rfl, hp0, by show p ≤ 6000; omega, by show p + (m.length : Int) ≤ 12000; omega, HLO.out⟩
        case round =>
          obtain ⟨j, y, hj, rfl, hg, ht, hme, hy0, hy1, hy2, hlo⟩ := hrel
          have HS2 := Lib.hid (And.intro hg (And.intro ht (And.intro hme hlo)))
          clear hg ht hme hlo
          obtain ⟨r, s⟩ := y
          dsimp only at hy0 hy1 hy2 HS2
          by_cases hlt2 : j < l.length
          · · obtain ⟨c0, c1⟩ := (H.out.1.kept HS2.out.1).cells j hlt2
              have hjl : (j : Int) < (l.length : Int) := by omega
              have hj0 : (0 : Int) ≤ (j : Int) := by omega
              obtain ⟨q0, q1, q2, q3⟩ := H.out.2.2.1 _ (List.getElem_mem hlt2)
              have HD2 := Lib.hid (List.drop_eq_getElem_cons hlt2)
              have hlo := HS2.out.2.2.2 l[j] (by rw [HD2.out]; exact List.mem_cons_self ..)
              generalize l[j] = x at *
              obtain ⟨u, v⟩ := x
              dsimp only at c0 c1 q0 q1 q2 q3 hlo
              have z0 := HS2.out.2.1.a
              have z1 := HS2.out.2.1.b
              have z2 := grownBy_trans HS2.out.1 (grownBy_drew (r := none))
              have z3 : wr.drew.grownBy wr.drew none := World.grownBy.refl _ _
              by_cases hcmp3 : u ≤ r + (s.length : Int)
              · have HMM := Lib.hid (show mergeR (l.drop k) (p, m) = mergeR (l.drop (j + 1)) (overP (u, v) (r, s)) by rw [HS2.out.2.2.1, HD2.out, mergeR, if_pos hcmp3])
                have hol := over_len (p := (u, v)) (x := (r, s)) hcmp3 hlo
                have hof : (overP (u, v) (r, s)).1 = min u r := rfl
                dsimp only at hol
                have HLL := Lib.hid (show ∀ q ∈ l.drop (j + 1), min u r ≤ q.1 + (q.2.length : Int) from fun q hq => by
                  have := HS2.out.2.2.2 q (by rw [HD2.out]; simp [hq])
                  omega)
                go_wp2_with fail
                go_region_held3 (fun w' => w'.cell? ⟨b, off + j * 2, none⟩ = some (.int .i64 u) ∧ w'.cell? ⟨b, off + j * 2 + 1, none⟩ = some (.string ⟨v.toArray⟩) ∧ w'.cell? ⟨w.heap.size, 0, none⟩ = some (.int .i64 r) ∧ w'.cell? ⟨w.heap.size, 1, none⟩ = some (.string ⟨s.toArray⟩) ∧ w.grownBy w' none ∧ wr.drew.grownBy w' none) ((refine ⟨by first | assumption | (simp [*]; done), by first | assumption | (simp [*]; done), by first | assumption | (simp [*]; done), by first | assumption | (simp [*]; done), by assumption, by assumption⟩))
                  (first
                    | (go_at_call 29; refine (end_any r s _ hy0 (by omega) (by omega)).mono ?_; rintro e w8 ⟨rfl, hg⟩; have y0 := hg.cell (a := ⟨b, off + j * 2, none⟩) (v := .int .i64 u) (by first | assumption | (simp [*]; done)) (by simp); have y1 := hg.cell (a := ⟨b, off + j * 2 + 1, none⟩) (v := .string ⟨v.toArray⟩) (by first | assumption | (simp [*]; done)) (by simp); have y2 := hg.cell (a := ⟨w.heap.size, 0, none⟩) (v := .int .i64 r) (by first | assumption | (simp [*]; done)) (by simp); have y3 := hg.cell (a := ⟨w.heap.size, 1, none⟩) (v := .string ⟨s.toArray⟩) (by first | assumption | (simp [*]; done)) (by simp); have y4 := grownBy_trans (a := w) (by assumption) hg; have y5 := grownBy_trans (a := wr.drew) (by assumption) hg)
                    | (go_at_call 55; refine (start_any _ _ _).mono ?_; rintro e w8 ⟨rfl, hg⟩; have y0 := hg.cell (a := ⟨b, off + j * 2, none⟩) (v := .int .i64 u) (by first | assumption | (simp [*]; done)) (by simp); have y1 := hg.cell (a := ⟨b, off + j * 2 + 1, none⟩) (v := .string ⟨v.toArray⟩) (by first | assumption | (simp [*]; done)) (by simp); have y2 := hg.cell (a := ⟨w.heap.size, 0, none⟩) (v := .int .i64 r) (by first | assumption | (simp [*]; done)) (by simp); have y3 := hg.cell (a := ⟨w.heap.size, 1, none⟩) (v := .string ⟨s.toArray⟩) (by first | assumption | (simp [*]; done)) (by simp); have y4 := grownBy_trans (a := w) (by assumption) hg; have y5 := grownBy_trans (a := wr.drew) (by assumption) hg))
                rename_i hH
                have HR3 := Lib.hid (And.intro hH.2.2.2.2.1 ((HS2.out.2.1.kept (grownBy_drew (r := none)) (by simp)).kept hH.2.2.2.2.2 (by simp)))
                obtain ⟨x0, x1, x2, x3, _, _⟩ := hH
                clear c0 c1 z0 z1 z2 z3
                go_wp2_with fail
                go_still_tail 6, (by kernel_rfl)
                go_wp2_with fail
                refine (over_any u r v s _ q0 (by omega) hy0 (by omega) (by omega) (by omega) (by omega) (by omega)).mono ?_
                rintro e w9 ⟨rfl, hg⟩
                have H9 := Lib.hid (And.intro (grownBy_trans (grownBy_trans HR3.out.1 grownBy_drew) hg) ((HR3.out.2.kept (grownBy_drew (r := none)) (by simp)).kept hg (by simp)))
                clear hg x0 x1 x2 x3
                have HB := Lib.hid (And.intro hof hol)
                clear hof hol
                generalize overP (u, v) (r, s) = ov at *
                obtain ⟨o1, o2⟩ := ov
                obtain ⟨ho1, ho2⟩ := HB.out
                dsimp only at ho1 ho2
                obtain ⟨a0, a1, a2, a3⟩ := H9.out.2
                have hW : w9.grownBy ((w9.setCell ⟨w.heap.size, 0, none⟩ (.int .i64 o1)).setCell ⟨w.heap.size, 1, none⟩ (.string ⟨o2.toArray⟩)) (some w.heap.size) := grownBy_trans (grownBy_set _ _ _ _) (grownBy_set _ _ _ _)
                have HFF := Lib.hid (And.intro (grownBy_new H9.out.1 hW (Nat.le_refl _)) (And.intro (two_set (x' := .int .i64 o1) (y' := .string ⟨o2.toArray⟩) H9.out.2) (show 0 ≤ o1 ∧ o1 ≤ 6000 ∧ o1 + (o2.length : Int) ≤ 12000 from ⟨by omega, by omega, by omega⟩)))
                have HL3 := Lib.hid (show ∀ q ∈ l.drop (j + 1), o1 ≤ q.1 + (q.2.length : Int) from fun q hq => by have := HLL.out q hq; omega)
                clear hW ho1 ho2
                dsimp only
                go_wp2_with fail
                go_roundw
                case rel => exact ⟨j + 1, (o1, o2), hlt2, by go_num, HFF.out.1, HFF.out.2.1, HMM.out, HFF.out.2.2.1, HFF.out.2.2.2.1, HFF.out.2.2.2.2, HL3.out⟩
                case measure => first | (simp [intOf]; done) | (simp [intOf]; omega)
              · have hcmp4 : decide (u ≤ r + (s.length : Int)) = false := decide_eq_false hcmp3
                have HMM := Lib.hid (show mergeR (l.drop k) (p, m) = (r, s) :: l.drop j by rw [HS2.out.2.2.1, HD2.out, mergeR, if_neg hcmp3])
                go_wp2_with fail
                go_region_held3 (fun w' => w'.cell? ⟨b, off + j * 2, none⟩ = some (.int .i64 u) ∧ w'.cell? ⟨b, off + j * 2 + 1, none⟩ = some (.string ⟨v.toArray⟩) ∧ w'.cell? ⟨w.heap.size, 0, none⟩ = some (.int .i64 r) ∧ w'.cell? ⟨w.heap.size, 1, none⟩ = some (.string ⟨s.toArray⟩) ∧ w.grownBy w' none ∧ wr.drew.grownBy w' none) ((refine ⟨by first | assumption | (simp [*]; done), by first | assumption | (simp [*]; done), by first | assumption | (simp [*]; done), by first | assumption | (simp [*]; done), by assumption, by assumption⟩))
                  (first
                    | (go_at_call 29; refine (end_any r s _ hy0 (by omega) (by omega)).mono ?_; rintro e w8 ⟨rfl, hg⟩; have y0 := hg.cell (a := ⟨b, off + j * 2, none⟩) (v := .int .i64 u) (by first | assumption | (simp [*]; done)) (by simp); have y1 := hg.cell (a := ⟨b, off + j * 2 + 1, none⟩) (v := .string ⟨v.toArray⟩) (by first | assumption | (simp [*]; done)) (by simp); have y2 := hg.cell (a := ⟨w.heap.size, 0, none⟩) (v := .int .i64 r) (by first | assumption | (simp [*]; done)) (by simp); have y3 := hg.cell (a := ⟨w.heap.size, 1, none⟩) (v := .string ⟨s.toArray⟩) (by first | assumption | (simp [*]; done)) (by simp); have y4 := grownBy_trans (a := w) (by assumption) hg; have y5 := grownBy_trans (a := wr.drew) (by assumption) hg)
                    | (go_at_call 55; refine (start_any _ _ _).mono ?_; rintro e w8 ⟨rfl, hg⟩; have y0 := hg.cell (a := ⟨b, off + j * 2, none⟩) (v := .int .i64 u) (by first | assumption | (simp [*]; done)) (by simp); have y1 := hg.cell (a := ⟨b, off + j * 2 + 1, none⟩) (v := .string ⟨v.toArray⟩) (by first | assumption | (simp [*]; done)) (by simp); have y2 := hg.cell (a := ⟨w.heap.size, 0, none⟩) (v := .int .i64 r) (by first | assumption | (simp [*]; done)) (by simp); have y3 := hg.cell (a := ⟨w.heap.size, 1, none⟩) (v := .string ⟨s.toArray⟩) (by first | assumption | (simp [*]; done)) (by simp); have y4 := grownBy_trans (a := w) (by assumption) hg; have y5 := grownBy_trans (a := wr.drew) (by assumption) hg))
                rename_i hH
                have HR3 := Lib.hid (And.intro hH.2.2.2.2.1 ((HS2.out.2.1.kept (grownBy_drew (r := none)) (by simp)).kept hH.2.2.2.2.2 (by simp)))
                clear hH c0 c1 z0 z1 z2 z3
                obtain ⟨a0, a1, a2, a3⟩ := HR3.out.2
                obtain ⟨b0, b1, b2, b3⟩ := HR3.out.2.kept (grownBy_drew (r := none)) (by simp)
                have hkc : (k : Int) ≤ (c : Int) := by omega
                have hkc2 : k ≤ c := by omega
                have hkl : k ≤ l.length := by omega
                have hkz : (0 : Int) ≤ (k : Int) := by omega
                have hjz : (0 : Int) ≤ (j : Int) := by omega
                have hjl2 : (j : Int) ≤ (l.length : Int) := by omega
                have hlc : (l.length : Int) ≤ (c : Int) := by omega
                have hcj2 : ¬ c = j := by omega
                have g0 : w8.grownBy w8.drew none := grownBy_drew
                have HCAT := Lib.hid (show catL [((.slice (some ⟨b, off, none⟩) k c : Value), l.take k), ((.slice (some ⟨w8.heap.size, 0, none⟩) 1 1 : Value), [((r, s) : Pk)]), ((.slice (some ⟨b, off + j * 2, none⟩) (l.length - j) (c - j) : Value), l.drop j)] = withL l (p, m) by
                  rw [HW.out, HMM.out]; simp [catL])
                have hcl := with_len l (p, m)
                rw [← HCAT.out] at hcl
                have hcl0 : 0 < (catL [((.slice (some ⟨b, off, none⟩) k c : Value), l.take k), ((.slice (some ⟨w8.heap.size, 0, none⟩) 1 1 : Value), [((r, s) : Pk)]), ((.slice (some ⟨b, off + j * 2, none⟩) (l.length - j) (c - j) : Value), l.drop j)]).length := by simp [catL]; try omega
                have HCL := Lib.hid (And.intro hcl0 hcl)
                clear hcl0 hcl
                go_wp2_with fail
                go_region_held3 (fun w' => w'.cell? ⟨w.heap.size, 0, none⟩ = some (.int .i64 r) ∧ w'.cell? ⟨w.heap.size, 1, none⟩ = some (.string ⟨s.toArray⟩) ∧ w8.grownBy w' none) ((refine ⟨by first | assumption | exact (World.grownBy_alloc _ _ none).cell (by assumption) (by simp) | exact (World.grownBy_alloc _ _ none).cell ((World.grownBy_alloc _ _ none).cell (by assumption) (by simp)) (by simp) | (simp [*]; done), by first | assumption | exact (World.grownBy_alloc _ _ none).cell (by assumption) (by simp) | exact (World.grownBy_alloc _ _ none).cell ((World.grownBy_alloc _ _ none).cell (by assumption) (by simp)) (by simp) | (simp [*]; done), by first | assumption | exact grownBy_drew | exact grownBy_trans (World.grownBy_alloc _ _ _) grownBy_drew | exact grownBy_trans (World.grownBy_alloc _ _ _) (grownBy_trans (World.grownBy_alloc _ _ _) grownBy_drew) | exact grownBy_trans (World.grownBy_alloc _ _ _) (World.grownBy_alloc _ _ _) | exact World.grownBy_alloc _ _ _⟩))
                  (first | (go_at_call 37; have gW : w8.grownBy ((w8.alloc (.cells #[.int .i64 r, .string ⟨s.toArray⟩] 57)).alloc (.cells #[.slice (some ⟨b, off, none⟩) k c, .slice (some ⟨w8.heap.size, 0, none⟩) 1 1, .slice (some ⟨b, off + j * 2, none⟩) (l.length - j) (c - j)] 70)).drew none := grownBy_trans (World.grownBy_alloc _ _ _) (grownBy_trans (World.grownBy_alloc _ _ _) grownBy_drew); refine (concat_any (w8.heap.size + 1) 3 [((.slice (some ⟨b, off, none⟩) k c : Value), l.take k), ((.slice (some ⟨w8.heap.size, 0, none⟩) 1 1 : Value), [((r, s) : Pk)]), ((.slice (some ⟨b, off + j * 2, none⟩) (l.length - j) (c - j) : Value), l.drop j)] _ (three_sl (by go_simp) (by go_simp) (by go_simp) (sl_take (H.out.1.kept (grownBy_trans HR3.out.1 gW)) hkl) (sl_one (by go_simp) (by go_simp)) (sl_drop (H.out.1.kept (grownBy_trans HR3.out.1 gW)) (by omega) rfl)) (by simp) HCL.out.1 (by have := HCL.out.2; omega)).mono ?_; rintro e w9 ⟨v9, rfl, hg, ho⟩; have q0 := hg.cell (gW.cell a0 (by simp)) (by simp); have q1 := hg.cell (gW.cell a1 (by simp)) (by simp); have q2 := grownBy_trans gW hg; have HOW := Lib.hid (own_base ho (grownBy_trans HR3.out.1 gW).size)))
                go_wp2_with fail
                go_ret
                refine ⟨_, rfl, grownBy_trans HR3.out.1 (by assumption), ?_⟩
                rw [← HCAT.out]
                exact HOW.out
          · obtain rfl : j = l.length := by omega
            have HMM := Lib.hid (show mergeR (l.drop k) (p, m) = (r, s) :: l.drop l.length by rw [HS2.out.2.2.1, List.drop_length]; rfl)
            by_cases hcj : c = l.length
            · subst hcj
              go_wp2_with fail
              go_quiet (fail)
              have HR3 := Lib.hid (And.intro (grownBy_trans HS2.out.1 (grownBy_drewN (r := none) nq)) (HS2.out.2.1.kept (grownBy_drewN (r := none) nq) (by simp)))
              generalize hw8 : (wr.drewN nq) = w8 at *
              clear hw8
              obtain ⟨a0, a1, a2, a3⟩ := HR3.out.2
              obtain ⟨b0, b1, b2, b3⟩ := HR3.out.2.kept (grownBy_drew (r := none)) (by simp)
              have hkc : (k : Int) ≤ (l.length : Int) := by omega
              have hkc2 : k ≤ l.length := by omega
              have hkl : k ≤ l.length := by omega
              have hkz : (0 : Int) ≤ (k : Int) := by omega
              have hjz : (0 : Int) ≤ (l.length : Int) := by omega
              have hjl2 : (l.length : Int) ≤ (l.length : Int) := by omega
              have hlc : (l.length : Int) ≤ (l.length : Int) := by omega
              have g0 : w8.grownBy w8.drew none := grownBy_drew
              have HCAT := Lib.hid (show catL [((.slice (some ⟨b, off, none⟩) k l.length : Value), l.take k), ((.slice (some ⟨w8.heap.size, 0, none⟩) 1 1 : Value), [((r, s) : Pk)]), ((.slice (some ⟨b, off, none⟩) 0 0 : Value), l.drop l.length)] = withL l (p, m) by
                rw [HW.out, HMM.out]; simp [catL])
              have hcl := with_len l (p, m)
              rw [← HCAT.out] at hcl
              have hcl0 : 0 < (catL [((.slice (some ⟨b, off, none⟩) k l.length : Value), l.take k), ((.slice (some ⟨w8.heap.size, 0, none⟩) 1 1 : Value), [((r, s) : Pk)]), ((.slice (some ⟨b, off, none⟩) 0 0 : Value), l.drop l.length)]).length := by simp [catL]; try omega
              have HCL := Lib.hid (And.intro hcl0 hcl)
              clear hcl0 hcl
              go_wp2_with fail
              go_region_held3 (fun w' => w'.cell? ⟨w.heap.size, 0, none⟩ = some (.int .i64 r) ∧ w'.cell? ⟨w.heap.size, 1, none⟩ = some (.string ⟨s.toArray⟩) ∧ w8.grownBy w' none) ((refine ⟨by first | assumption | exact (World.grownBy_alloc _ _ none).cell (by assumption) (by simp) | exact (World.grownBy_alloc _ _ none).cell ((World.grownBy_alloc _ _ none).cell (by assumption) (by simp)) (by simp) | (simp [*]; done), by first | assumption | exact (World.grownBy_alloc _ _ none).cell (by assumption) (by simp) | exact (World.grownBy_alloc _ _ none).cell ((World.grownBy_alloc _ _ none).cell (by assumption) (by simp)) (by simp) | (simp [*]; done), by first | assumption | exact grownBy_drew | exact grownBy_trans (World.grownBy_alloc _ _ _) grownBy_drew | exact grownBy_trans (World.grownBy_alloc _ _ _) (grownBy_trans (World.grownBy_alloc _ _ _) grownBy_drew) | exact grownBy_trans (World.grownBy_alloc _ _ _) (World.grownBy_alloc _ _ _) | exact World.grownBy_alloc _ _ _⟩))
                (first | (go_at_call 37; have gW : w8.grownBy ((w8.alloc (.cells #[.int .i64 r, .string ⟨s.toArray⟩] 57)).alloc (.cells #[.slice (some ⟨b, off, none⟩) k l.length, .slice (some ⟨w8.heap.size, 0, none⟩) 1 1, .slice (some ⟨b, off, none⟩) 0 0] 70)).drew none := grownBy_trans (World.grownBy_alloc _ _ _) (grownBy_trans (World.grownBy_alloc _ _ _) grownBy_drew); refine (concat_any (w8.heap.size + 1) 3 [((.slice (some ⟨b, off, none⟩) k l.length : Value), l.take k), ((.slice (some ⟨w8.heap.size, 0, none⟩) 1 1 : Value), [((r, s) : Pk)]), ((.slice (some ⟨b, off, none⟩) 0 0 : Value), l.drop l.length)] _ (three_sl (by go_simp) (by go_simp) (by go_simp) (sl_take (H.out.1.kept (grownBy_trans HR3.out.1 gW)) hkl) (sl_one (by go_simp) (by go_simp)) (sl_end _ _ _ _)) (by simp) HCL.out.1 (by have := HCL.out.2; omega)).mono ?_; rintro e w9 ⟨v9, rfl, hg, ho⟩; have q0 := hg.cell (gW.cell a0 (by simp)) (by simp); have q1 := hg.cell (gW.cell a1 (by simp)) (by simp); have q2 := grownBy_trans gW hg; have HOW := Lib.hid (own_base ho (grownBy_trans HR3.out.1 gW).size)))
              go_wp2_with fail
              go_ret
              refine ⟨_, rfl, grownBy_trans HR3.out.1 (by assumption), ?_⟩
              rw [← HCAT.out]
              exact HOW.out
            · go_wp2_with fail
              go_quiet (fail)
              have HR3 := Lib.hid (And.intro (grownBy_trans HS2.out.1 (grownBy_drewN (r := none) nq)) (HS2.out.2.1.kept (grownBy_drewN (r := none) nq) (by simp)))
              generalize hw8 : (wr.drewN nq) = w8 at *
              clear hw8
              obtain ⟨a0, a1, a2, a3⟩ := HR3.out.2
              obtain ⟨b0, b1, b2, b3⟩ := HR3.out.2.kept (grownBy_drew (r := none)) (by simp)
              have hkc : (k : Int) ≤ (c : Int) := by omega
              have hkc2 : k ≤ c := by omega
              have hkl : k ≤ l.length := by omega
              have hkz : (0 : Int) ≤ (k : Int) := by omega
              have hjz : (0 : Int) ≤ (l.length : Int) := by omega
              have hjl2 : (l.length : Int) ≤ (l.length : Int) := by omega
              have hlc : (l.length : Int) ≤ (c : Int) := by omega
              have hcj2 : ¬ c = l.length := hcj
              have g0 : w8.grownBy w8.drew none := grownBy_drew
              have HCAT := Lib.hid (show catL [((.slice (some ⟨b, off, none⟩) k c : Value), l.take k), ((.slice (some ⟨w8.heap.size, 0, none⟩) 1 1 : Value), [((r, s) : Pk)]), ((.slice (some ⟨b, off + l.length * 2, none⟩) 0 (c - l.length) : Value), l.drop l.length)] = withL l (p, m) by
                rw [HW.out, HMM.out]; simp [catL])
              have hcl := with_len l (p, m)
              rw [← HCAT.out] at hcl
              have hcl0 : 0 < (catL [((.slice (some ⟨b, off, none⟩) k c : Value), l.take k), ((.slice (some ⟨w8.heap.size, 0, none⟩) 1 1 : Value), [((r, s) : Pk)]), ((.slice (some ⟨b, off + l.length * 2, none⟩) 0 (c - l.length) : Value), l.drop l.length)]).length := by simp [catL]; try omega
              have HCL := Lib.hid (And.intro hcl0 hcl)
              clear hcl0 hcl
              go_wp2_with fail
              go_region_held3 (fun w' => w'.cell? ⟨w.heap.size, 0, none⟩ = some (.int .i64 r) ∧ w'.cell? ⟨w.heap.size, 1, none⟩ = some (.string ⟨s.toArray⟩) ∧ w8.grownBy w' none) ((refine ⟨by first | assumption | exact (World.grownBy_alloc _ _ none).cell (by assumption) (by simp) | exact (World.grownBy_alloc _ _ none).cell ((World.grownBy_alloc _ _ none).cell (by assumption) (by simp)) (by simp) | (simp [*]; done), by first | assumption | exact (World.grownBy_alloc _ _ none).cell (by assumption) (by simp) | exact (World.grownBy_alloc _ _ none).cell ((World.grownBy_alloc _ _ none).cell (by assumption) (by simp)) (by simp) | (simp [*]; done), by first | assumption | exact grownBy_drew | exact grownBy_trans (World.grownBy_alloc _ _ _) grownBy_drew | exact grownBy_trans (World.grownBy_alloc _ _ _) (grownBy_trans (World.grownBy_alloc _ _ _) grownBy_drew) | exact grownBy_trans (World.grownBy_alloc _ _ _) (World.grownBy_alloc _ _ _) | exact World.grownBy_alloc _ _ _⟩))
                (first | (go_at_call 37; have gW : w8.grownBy ((w8.alloc (.cells #[.int .i64 r, .string ⟨s.toArray⟩] 57)).alloc (.cells #[.slice (some ⟨b, off, none⟩) k c, .slice (some ⟨w8.heap.size, 0, none⟩) 1 1, .slice (some ⟨b, off + l.length * 2, none⟩) 0 (c - l.length)] 70)).drew none := grownBy_trans (World.grownBy_alloc _ _ _) (grownBy_trans (World.grownBy_alloc _ _ _) grownBy_drew); refine (concat_any (w8.heap.size + 1) 3 [((.slice (some ⟨b, off, none⟩) k c : Value), l.take k), ((.slice (some ⟨w8.heap.size, 0, none⟩) 1 1 : Value), [((r, s) : Pk)]), ((.slice (some ⟨b, off + l.length * 2, none⟩) 0 (c - l.length) : Value), l.drop l.length)] _ (three_sl (by go_simp) (by go_simp) (by go_simp) (sl_take (H.out.1.kept (grownBy_trans HR3.out.1 gW)) hkl) (sl_one (by go_simp) (by go_simp)) (sl_end _ _ _ _)) (by simp) HCL.out.1 (by have := HCL.out.2; omega)).mono ?_; rintro e w9 ⟨v9, rfl, hg, ho⟩; have q0 := hg.cell (gW.cell a0 (by simp)) (by simp); have q1 := hg.cell (gW.cell a1 (by simp)) (by simp); have q2 := grownBy_trans gW hg; have HOW := Lib.hid (own_base ho (grownBy_trans HR3.out.1 gW).size)))
              go_wp2_with fail
              go_ret
              refine ⟨_, rfl, grownBy_trans HR3.out.1 (by assumption), ?_⟩
              rw [← HCAT.out]
              exact HOW.out
    · obtain rfl : k = l.length := by omega
      have HW := Lib.hid (show withL l (p, m) = l.take l.length ++ mergeR (l.drop l.length) (p, m) by rw [HS.out.2.2, List.drop_length]; rfl)
      have HLO := Lib.hid (show ∀ q ∈ l.drop l.length, p ≤ q.1 + (q.2.length : Int) from fun q hq => by rw [List.drop_length] at hq; cases hq)
      go_wp2_with fail
      go_quiet (fail)
      have HR := Lib.hid (And.intro (grownBy_trans HS.out.1 (grownBy_drewN (r := none) nq)) (HS.out.2.1.kept (grownBy_drewN (r := none) nq) (by simp)))
      have hlt : l.length ≤ l.length := Nat.le_refl _
      go_wp2_with fail
      go_loopw [6] (fun i wr2 => W2Rel w l (p, m) l.length i wr2) (fun i _ => l.length - (intOf i).toNat)
      case atStart => exact ⟨l.length, (p, m), by omega, rfl, HR.out.1, HR.out.2, rfl, hp0, by show p ≤ 6000; omega, by show p + (m.length : Int) ≤ 12000; omega, HLO.out⟩
      case round =>
        obtain ⟨j, y, hj, rfl, hg, ht, hme, hy0, hy1, hy2, hlo⟩ := hrel
        have HS2 := Lib.hid (And.intro hg (And.intro ht (And.intro hme hlo)))
        clear hg ht hme hlo
        obtain ⟨r, s⟩ := y
        dsimp only at hy0 hy1 hy2 HS2
        by_cases hlt2 : j < l.length
        · · obtain ⟨c0, c1⟩ := (H.out.1.kept HS2.out.1).cells j hlt2
            have hjl : (j : Int) < (l.length : Int) := by omega
            have hj0 : (0 : Int) ≤ (j : Int) := by omega
            obtain ⟨q0, q1, q2, q3⟩ := H.out.2.2.1 _ (List.getElem_mem hlt2)
            have HD2 := Lib.hid (List.drop_eq_getElem_cons hlt2)
            have hlo := HS2.out.2.2.2 l[j] (by rw [HD2.out]; exact List.mem_cons_self ..)
            generalize l[j] = x at *
            obtain ⟨u, v⟩ := x
            dsimp only at c0 c1 q0 q1 q2 q3 hlo
            have z0 := HS2.out.2.1.a
            have z1 := HS2.out.2.1.b
            have z2 := grownBy_trans HS2.out.1 (grownBy_drew (r := none))
            have z3 : wr.drew.grownBy wr.drew none := World.grownBy.refl _ _
            by_cases hcmp3 : u ≤ r + (s.length : Int)
            · have HMM := Lib.hid (show mergeR (l.drop l.length) (p, m) = mergeR (l.drop (j + 1)) (overP (u, v) (r, s)) by rw [HS2.out.2.2.1, HD2.out, mergeR, if_pos hcmp3])
              have hol := over_len (p := (u, v)) (x := (r, s)) hcmp3 hlo
              have hof : (overP (u, v) (r, s)).1 = min u r := rfl
              dsimp only at hol
              have HLL := Lib.hid (show ∀ q ∈ l.drop (j + 1), min u r ≤ q.1 + (q.2.length : Int) from fun q hq => by
                have := HS2.out.2.2.2 q (by rw [HD2.out]; simp [hq])
                omega)
              go_wp2_with fail
              go_region_held3 (fun w' => w'.cell? ⟨b, off + j * 2, none⟩ = some (.int .i64 u) ∧ w'.cell? ⟨b, off + j * 2 + 1, none⟩ = some (.string ⟨v.toArray⟩) ∧ w'.cell? ⟨w.heap.size, 0, none⟩ = some (.int .i64 r) ∧ w'.cell? ⟨w.heap.size, 1, none⟩ = some (.string ⟨s.toArray⟩) ∧ w.grownBy w' none ∧ wr.drew.grownBy w' none) ((refine ⟨by first | assumption | (simp [*]; done), by first | assumption | (simp [*]; done), by first | assumption | (simp [*]; done), by first | assumption | (simp [*]; done), by assumption, by assumption⟩))
                (first
                  | (go_at_call 29; refine (end_any r s _ hy0 (by omega) (by omega)).mono ?_; rintro e w8 ⟨rfl, hg⟩; have y0 := hg.cell (a := ⟨b, off + j * 2, none⟩) (v := .int .i64 u) (by first | assumption | (simp [*]; done)) (by simp); have y1 := hg.cell (a := ⟨b, off + j * 2 + 1, none⟩) (v := .string ⟨v.toArray⟩) (by first | assumption | (simp [*]; done)) (by simp); have y2 := hg.cell (a := ⟨w.heap.size, 0, none⟩) (v := .int .i64 r) (by first | assumption | (simp [*]; done)) (by simp); have y3 := hg.cell (a := ⟨w.heap.size, 1, none⟩) (v := .string ⟨s.toArray⟩) (by first | assumption | (simp [*]; done)) (by simp); have y4 := grownBy_trans (a := w) (by assumption) hg; have y5 := grownBy_trans (a := wr.drew) (by assumption) hg)
                  | (go_at_call 55; refine (start_any _ _ _).mono ?_; rintro e w8 ⟨rfl, hg⟩; have y0 := hg.cell (a := ⟨b, off + j * 2, none⟩) (v := .int .i64 u) (by first | assumption | (simp [*]; done)) (by simp); have y1 := hg.cell (a := ⟨b, off + j * 2 + 1, none⟩) (v := .string ⟨v.toArray⟩) (by first | assumption | (simp [*]; done)) (by simp); have y2 := hg.cell (a := ⟨w.heap.size, 0, none⟩) (v := .int .i64 r) (by first | assumption | (simp [*]; done)) (by simp); have y3 := hg.cell (a := ⟨w.heap.size, 1, none⟩) (v := .string ⟨s.toArray⟩) (by first | assumption | (simp [*]; done)) (by simp); have y4 := grownBy_trans (a := w) (by assumption) hg; have y5 := grownBy_trans (a := wr.drew) (by assumption) hg))
              rename_i hH
              have HR3 := Lib.hid (And.intro hH.2.2.2.2.1 ((HS2.out.2.1.kept (grownBy_drew (r := none)) (by simp)).kept hH.2.2.2.2.2 (by simp)))
              obtain ⟨x0, x1, x2, x3, _, _⟩ := hH
              clear c0 c1 z0 z1 z2 z3
              go_wp2_with fail
              go_still_tail 6, (by kernel_rfl)
              go_wp2_with fail
              refine (over_any u r v s _ q0 (by omega) hy0 (by omega) (by omega) (by omega) (by omega) (by omega)).mono ?_
              rintro e w9 ⟨rfl, hg⟩
              have H9 := Lib.hid (And.intro (grownBy_trans (grownBy_trans HR3.out.1 grownBy_drew) hg) ((HR3.out.2.kept (grownBy_drew (r := none)) (by simp)).kept hg (by simp)))
              clear hg x0 x1 x2 x3
              have HB := Lib.hid (And.intro hof hol)
              clear hof hol
              generalize overP (u, v) (r, s) = ov at *
              obtain ⟨o1, o2⟩ := ov
              obtain ⟨ho1, ho2⟩ := HB.out
              dsimp only at ho1 ho2
              obtain ⟨a0, a1, a2, a3⟩ := H9.out.2
              have hW : w9.grownBy ((w9.setCell ⟨w.heap.size, 0, none⟩ (.int .i64 o1)).setCell ⟨w.heap.size, 1, none⟩ (.string ⟨o2.toArray⟩)) (some w.heap.size) := grownBy_trans (grownBy_set _ _ _ _) (grownBy_set _ _ _ _)
              have HFF := Lib.hid (And.intro (grownBy_new H9.out.1 hW (Nat.le_refl _)) (And.intro (two_set (x' := .int .i64 o1) (y' := .string ⟨o2.toArray⟩) H9.out.2) (show 0 ≤ o1 ∧ o1 ≤ 6000 ∧ o1 + (o2.length : Int) ≤ 12000 from ⟨by omega, by omega, by omega⟩)))
              have HL3 := Lib.hid (show ∀ q ∈ l.drop (j + 1), o1 ≤ q.1 + (q.2.length : Int) from fun q hq => by have := HLL.out q hq; omega)
              clear hW ho1 ho2
              dsimp only
              go_wp2_with fail
              go_roundw
              case rel => exact ⟨j + 1, (o1, o2), hlt2, by go_num, HFF.out.1, HFF.out.2.1, HMM.out, HFF.out.2.2.1, HFF.out.2.2.2.1, HFF.out.2.2.2.2, HL3.out⟩
              case measure => first | (simp [intOf]; done) | (simp [intOf]; omega)
            · have hcmp4 : decide (u ≤ r + (s.length : Int)) = false := decide_eq_false hcmp3
              have HMM := Lib.hid (show mergeR (l.drop l.length) (p, m) = (r, s) :: l.drop j by rw [HS2.out.2.2.1, HD2.out, mergeR, if_neg hcmp3])
              go_wp2_with fail
              go_region_held3 (fun w' => w'.cell? ⟨b, off + j * 2, none⟩ = some (.int .i64 u) ∧ w'.cell? ⟨b, off + j * 2 + 1, none⟩ = some (.string ⟨v.toArray⟩) ∧ w'.cell? ⟨w.heap.size, 0, none⟩ = some (.int .i64 r) ∧ w'.cell? ⟨w.heap.size, 1, none⟩ = some (.string ⟨s.toArray⟩) ∧ w.grownBy w' none ∧ wr.drew.grownBy w' none) ((refine ⟨by first | assumption | (simp [*]; done), by first | assumption | (simp [*]; done), by first | assumption | (simp [*]; done), by first | assumption | (simp [*]; done), by assumption, by assumption⟩))
                (first
                  | (go_at_call 29; refine (end_any r s _ hy0 (by omega) (by omega)).mono ?_; rintro e w8 ⟨rfl, hg⟩; have y0 := hg.cell (a := ⟨b, off + j * 2, none⟩) (v := .int .i64 u) (by first | assumption | (simp [*]; done)) (by simp); have y1 := hg.cell (a := ⟨b, off + j * 2 + 1, none⟩) (v := .string ⟨v.toArray⟩) (by first | assumption | (simp [*]; done)) (by simp); have y2 := hg.cell (a := ⟨w.heap.size, 0, none⟩) (v := .int .i64 r) (by first | assumption | (simp [*]; done)) (by simp); have y3 := hg.cell (a := ⟨w.heap.size, 1, none⟩) (v := .string ⟨s.toArray⟩) (by first | assumption | (simp [*]; done)) (by simp); have y4 := grownBy_trans (a := w) (by assumption) hg; have y5 := grownBy_trans (a := wr.drew) (by assumption) hg)
                  | (go_at_call 55; refine (start_any _ _ _).mono ?_; rintro e w8 ⟨rfl, hg⟩; have y0 := hg.cell (a := ⟨b, off + j * 2, none⟩) (v := .int .i64 u) (by first | assumption | (simp [*]; done)) (by simp); have y1 := hg.cell (a := ⟨b, off + j * 2 + 1, none⟩) (v := .string ⟨v.toArray⟩) (by first | assumption | (simp [*]; done)) (by simp); have y2 := hg.cell (a := ⟨w.heap.size, 0, none⟩) (v := .int .i64 r) (by first | assumption | (simp [*]; done)) (by simp); have y3 := hg.cell (a := ⟨w.heap.size, 1, none⟩) (v := .string ⟨s.toArray⟩) (by first | assumption | (simp [*]; done)) (by simp); have y4 := grownBy_trans (a := w) (by assumption) hg; have y5 := grownBy_trans (a := wr.drew) (by assumption) hg))
              rename_i hH
              have HR3 := Lib.hid (And.intro hH.2.2.2.2.1 ((HS2.out.2.1.kept (grownBy_drew (r := none)) (by simp)).kept hH.2.2.2.2.2 (by simp)))
              clear hH c0 c1 z0 z1 z2 z3
              obtain ⟨a0, a1, a2, a3⟩ := HR3.out.2
              obtain ⟨b0, b1, b2, b3⟩ := HR3.out.2.kept (grownBy_drew (r := none)) (by simp)
              have hkc : (l.length : Int) ≤ (c : Int) := by omega
              have hkc2 : l.length ≤ c := by omega
              have hkl : l.length ≤ l.length := by omega
              have hkz : (0 : Int) ≤ (l.length : Int) := by omega
              have hjz : (0 : Int) ≤ (j : Int) := by omega
              have hjl2 : (j : Int) ≤ (l.length : Int) := by omega
              have hlc : (l.length : Int) ≤ (c : Int) := by omega
              have hcj2 : ¬ c = j := by omega
              have g0 : w8.grownBy w8.drew none := grownBy_drew
              have HCAT := Lib.hid (show catL [((.slice (some ⟨b, off, none⟩) l.length c : Value), l.take l.length), ((.slice (some ⟨w8.heap.size, 0, none⟩) 1 1 : Value), [((r, s) : Pk)]), ((.slice (some ⟨b, off + j * 2, none⟩) (l.length - j) (c - j) : Value), l.drop j)] = withL l (p, m) by
                rw [HW.out, HMM.out]; simp [catL])
              have hcl := with_len l (p, m)
              rw [← HCAT.out] at hcl
              have hcl0 : 0 < (catL [((.slice (some ⟨b, off, none⟩) l.length c : Value), l.take l.length), ((.slice (some ⟨w8.heap.size, 0, none⟩) 1 1 : Value), [((r, s) : Pk)]), ((.slice (some ⟨b, off + j * 2, none⟩) (l.length - j) (c - j) : Value), l.drop j)]).length := by simp [catL]; try omega
              have HCL := Lib.hid (And.intro hcl0 hcl)
              clear hcl0 hcl
              go_wp2_with fail
              go_region_held3 (fun w' => w'.cell? ⟨w.heap.size, 0, none⟩ = some (.int .i64 r) ∧ w'.cell? ⟨w.heap.size, 1, none⟩ = some (.string ⟨s.toArray⟩) ∧ w8.grownBy w' none) ((refine ⟨by first | assumption | exact (World.grownBy_alloc _ _ none).cell (by assumption) (by simp) | exact (World.grownBy_alloc _ _ none).cell ((World.grownBy_alloc _ _ none).cell (by assumption) (by simp)) (by simp) | (simp [*]; done), by first | assumption | exact (World.grownBy_alloc _ _ none).cell (by assumption) (by simp) | exact (World.grownBy_alloc _ _ none).cell ((World.grownBy_alloc _ _ none).cell (by assumption) (by simp)) (by simp) | (simp [*]; done), by first | assumption | exact grownBy_drew | exact grownBy_trans (World.grownBy_alloc _ _ _) grownBy_drew | exact grownBy_trans (World.grownBy_alloc _ _ _) (grownBy_trans (World.grownBy_alloc _ _ _) grownBy_drew) | exact grownBy_trans (World.grownBy_alloc _ _ _) (World.grownBy_alloc _ _ _) | exact World.grownBy_alloc _ _ _⟩))
                (first | (go_at_call 37; have gW : w8.grownBy ((w8.alloc (.cells #[.int .i64 r, .string ⟨s.toArray⟩] 57)).alloc (.cells #[.slice (some ⟨b, off, none⟩) l.length c, .slice (some ⟨w8.heap.size, 0, none⟩) 1 1, .slice (some ⟨b, off + j * 2, none⟩) (l.length - j) (c - j)] 70)).drew none := grownBy_trans (World.grownBy_alloc _ _ _) (grownBy_trans (World.grownBy_alloc _ _ _) grownBy_drew); refine (concat_any (w8.heap.size + 1) 3 [((.slice (some ⟨b, off, none⟩) l.length c : Value), l.take l.length), ((.slice (some ⟨w8.heap.size, 0, none⟩) 1 1 : Value), [((r, s) : Pk)]), ((.slice (some ⟨b, off + j * 2, none⟩) (l.length - j) (c - j) : Value), l.drop j)] _ (three_sl (by go_simp) (by go_simp) (by go_simp) (sl_take (H.out.1.kept (grownBy_trans HR3.out.1 gW)) hkl) (sl_one (by go_simp) (by go_simp)) (sl_drop (H.out.1.kept (grownBy_trans HR3.out.1 gW)) (by omega) rfl)) (by simp) HCL.out.1 (by have := HCL.out.2; omega)).mono ?_; rintro e w9 ⟨v9, rfl, hg, ho⟩; have q0 := hg.cell (gW.cell a0 (by simp)) (by simp); have q1 := hg.cell (gW.cell a1 (by simp)) (by simp); have q2 := grownBy_trans gW hg; have HOW := Lib.hid (own_base ho (grownBy_trans HR3.out.1 gW).size)))
              go_wp2_with fail
              go_ret
              refine ⟨_, rfl, grownBy_trans HR3.out.1 (by assumption), ?_⟩
              rw [← HCAT.out]
              exact HOW.out
        · obtain rfl : j = l.length := by omega
          have HMM := Lib.hid (show mergeR (l.drop l.length) (p, m) = (r, s) :: l.drop l.length by rw [HS2.out.2.2.1, List.drop_length]; rfl)
          by_cases hcj : c = l.length
          · subst hcj
            go_wp2_with fail
            go_quiet (fail)
            have HR3 := Lib.hid (And.intro (grownBy_trans HS2.out.1 (grownBy_drewN (r := none) nq)) (HS2.out.2.1.kept (grownBy_drewN (r := none) nq) (by simp)))
            generalize hw8 : (wr.drewN nq) = w8 at *
            clear hw8
            obtain ⟨a0, a1, a2, a3⟩ := HR3.out.2
            obtain ⟨b0, b1, b2, b3⟩ := HR3.out.2.kept (grownBy_drew (r := none)) (by simp)
            have hkc : (l.length : Int) ≤ (l.length : Int) := by omega
            have hkc2 : l.length ≤ l.length := by omega
            have hkl : l.length ≤ l.length := by omega
            have hkz : (0 : Int) ≤ (l.length : Int) := by omega
            have hjz : (0 : Int) ≤ (l.length : Int) := by omega
            have hjl2 : (l.length : Int) ≤ (l.length : Int) := by omega
            have hlc : (l.length : Int) ≤ (l.length : Int) := by omega
            have g0 : w8.grownBy w8.drew none := grownBy_drew
            have HCAT := Lib.hid (show catL [((.slice (some ⟨b, off, none⟩) l.length l.length : Value), l.take l.length), ((.slice (some ⟨w8.heap.size, 0, none⟩) 1 1 : Value), [((r, s) : Pk)]), ((.slice (some ⟨b, off, none⟩) 0 0 : Value), l.drop l.length)] = withL l (p, m) by
              rw [HW.out, HMM.out]; simp [catL])
            have hcl := with_len l (p, m)
            rw [← HCAT.out] at hcl
            have hcl0 : 0 < (catL [((.slice (some ⟨b, off, none⟩) l.length l.length : Value), l.take l.length), ((.slice (some ⟨w8.heap.size, 0, none⟩) 1 1 : Value), [((r, s) : Pk)]), ((.slice (some ⟨b, off, none⟩) 0 0 : Value), l.drop l.length)]).length := by simp [catL]; try omega
            have HCL := Lib.hid (And.intro hcl0 hcl)
            clear hcl0 hcl
            go_wp2_with fail
            go_region_held3 (fun w' => w'.cell? ⟨w.heap.size, 0, none⟩ = some (.int .i64 r) ∧ w'.cell? ⟨w.heap.size, 1, none⟩ = some (.string ⟨s.toArray⟩) ∧ w8.grownBy w' none) ((refine ⟨by first | assumption | exact (World.grownBy_alloc _ _ none).cell (by assumption) (by simp) | exact (World.grownBy_alloc _ _ none).cell ((World.grownBy_alloc _ _ none).cell (by assumption) (by simp)) (by simp) | (simp [*]; done), by first | assumption | exact (World.grownBy_alloc _ _ none).cell (by assumption) (by simp) | exact (World.grownBy_alloc _ _ none).cell ((World.grownBy_alloc _ _ none).cell (by assumption) (by simp)) (by simp) | (simp [*]; done), by first | assumption | exact grownBy_drew | exact grownBy_trans (World.grownBy_alloc _ _ _) grownBy_drew | exact grownBy_trans (World.grownBy_alloc _ _ _) (grownBy_trans (World.grownBy_alloc _ _ _) grownBy_drew) | exact grownBy_trans (World.grownBy_alloc _ _ _) (World.grownBy_alloc _ _ _) | exact World.grownBy_alloc _ _ _⟩))
              (first | (go_at_call 37; have gW : w8.grownBy ((w8.alloc (.cells #[.int .i64 r, .string ⟨s.toArray⟩] 57)).alloc (.cells #[.slice (some ⟨b, off, none⟩) l.length l.length, .slice (some ⟨w8.heap.size, 0, none⟩) 1 1, .slice (some ⟨b, off, none⟩) 0 0] 70)).drew none := grownBy_trans (World.grownBy_alloc _ _ _) (grownBy_trans (World.grownBy_alloc _ _ _) grownBy_drew); refine (concat_any (w8.heap.size + 1) 3 [((.slice (some ⟨b, off, none⟩) l.length l.length : Value), l.take l.length), ((.slice (some ⟨w8.heap.size, 0, none⟩) 1 1 : Value), [((r, s) : Pk)]), ((.slice (some ⟨b, off, none⟩) 0 0 : Value), l.drop l.length)] _ (three_sl (by go_simp) (by go_simp) (by go_simp) (sl_take (H.out.1.kept (grownBy_trans HR3.out.1 gW)) hkl) (sl_one (by go_simp) (by go_simp)) (sl_end _ _ _ _)) (by simp) HCL.out.1 (by have := HCL.out.2; omega)).mono ?_; rintro e w9 ⟨v9, rfl, hg, ho⟩; have q0 := hg.cell (gW.cell a0 (by simp)) (by simp); have q1 := hg.cell (gW.cell a1 (by simp)) (by simp); have q2 := grownBy_trans gW hg; have HOW := Lib.hid (own_base ho (grownBy_trans HR3.out.1 gW).size)))
            go_wp2_with fail
            go_ret
            refine ⟨_, rfl, grownBy_trans HR3.out.1 (by assumption), ?_⟩
            rw [← HCAT.out]
            exact HOW.out
          · go_wp2_with fail
            go_quiet (fail)
            have HR3 := Lib.hid (And.intro (grownBy_trans HS2.out.1 (grownBy_drewN (r := none) nq)) (HS2.out.2.1.kept (grownBy_drewN (r := none) nq) (by simp)))
            generalize hw8 : (wr.drewN nq) = w8 at *
            clear hw8
            obtain ⟨a0, a1, a2, a3⟩ := HR3.out.2
            obtain ⟨b0, b1, b2, b3⟩ := HR3.out.2.kept (grownBy_drew (r := none)) (by simp)
            have hkc : (l.length : Int) ≤ (c : Int) := by omega
            have hkc2 : l.length ≤ c := by omega
            have hkl : l.length ≤ l.length := by omega
            have hkz : (0 : Int) ≤ (l.length : Int) := by omega
            have hjz : (0 : Int) ≤ (l.length : Int) := by omega
            have hjl2 : (l.length : Int) ≤ (l.length : Int) := by omega
            have hlc : (l.length : Int) ≤ (c : Int) := by omega
            have hcj2 : ¬ c = l.length := hcj
            have g0 : w8.grownBy w8.drew none := grownBy_drew
            have HCAT := Lib.hid (show catL [((.slice (some ⟨b, off, none⟩) l.length c : Value), l.take l.length), ((.slice (some ⟨w8.heap.size, 0, none⟩) 1 1 : Value), [((r, s) : Pk)]), ((.slice (some ⟨b, off + l.length * 2, none⟩) 0 (c - l.length) : Value), l.drop l.length)] = withL l (p, m) by
              rw [HW.out, HMM.out]; simp [catL])
            have hcl := with_len l (p, m)
            rw [← HCAT.out] at hcl
            have hcl0 : 0 < (catL [((.slice (some ⟨b, off, none⟩) l.length c : Value), l.take l.length), ((.slice (some ⟨w8.heap.size, 0, none⟩) 1 1 : Value), [((r, s) : Pk)]), ((.slice (some ⟨b, off + l.length * 2, none⟩) 0 (c - l.length) : Value), l.drop l.length)]).length := by simp [catL]; try omega
            have HCL := Lib.hid (And.intro hcl0 hcl)
            clear hcl0 hcl
            go_wp2_with fail
            go_region_held3 (fun w' => w'.cell? ⟨w.heap.size, 0, none⟩ = some (.int .i64 r) ∧ w'.cell? ⟨w.heap.size, 1, none⟩ = some (.string ⟨s.toArray⟩) ∧ w8.grownBy w' none) ((refine ⟨by first | assumption | exact (World.grownBy_alloc _ _ none).cell (by assumption) (by simp) | exact (World.grownBy_alloc _ _ none).cell ((World.grownBy_alloc _ _ none).cell (by assumption) (by simp)) (by simp) | (simp [*]; done), by first | assumption | exact (World.grownBy_alloc _ _ none).cell (by assumption) (by simp) | exact (World.grownBy_alloc _ _ none).cell ((World.grownBy_alloc _ _ none).cell (by assumption) (by simp)) (by simp) | (simp [*]; done), by first | assumption | exact grownBy_drew | exact grownBy_trans (World.grownBy_alloc _ _ _) grownBy_drew | exact grownBy_trans (World.grownBy_alloc _ _ _) (grownBy_trans (World.grownBy_alloc _ _ _) grownBy_drew) | exact grownBy_trans (World.grownBy_alloc _ _ _) (World.grownBy_alloc _ _ _) | exact World.grownBy_alloc _ _ _⟩))
              (first | (go_at_call 37; have gW : w8.grownBy ((w8.alloc (.cells #[.int .i64 r, .string ⟨s.toArray⟩] 57)).alloc (.cells #[.slice (some ⟨b, off, none⟩) l.length c, .slice (some ⟨w8.heap.size, 0, none⟩) 1 1, .slice (some ⟨b, off + l.length * 2, none⟩) 0 (c - l.length)] 70)).drew none := grownBy_trans (World.grownBy_alloc _ _ _) (grownBy_trans (World.grownBy_alloc _ _ _) grownBy_drew); refine (concat_any (w8.heap.size + 1) 3 [((.slice (some ⟨b, off, none⟩) l.length c : Value), l.take l.length), ((.slice (some ⟨w8.heap.size, 0, none⟩) 1 1 : Value), [((r, s) : Pk)]), ((.slice (some ⟨b, off + l.length * 2, none⟩) 0 (c - l.length) : Value), l.drop l.length)] _ (three_sl (by go_simp) (by go_simp) (by go_simp) (sl_take (H.out.1.kept (grownBy_trans HR3.out.1 gW)) hkl) (sl_one (by go_simp) (by go_simp)) (sl_end _ _ _ _)) (by simp) HCL.out.1 (by have := HCL.out.2; omega)).mono ?_; rintro e w9 ⟨v9, rfl, hg, ho⟩; have q0 := hg.cell (gW.cell a0 (by simp)) (by simp); have q1 := hg.cell (gW.cell a1 (by simp)) (by simp); have q2 := grownBy_trans gW hg; have HOW := Lib.hid (own_base ho (grownBy_trans HR3.out.1 gW).size)))
            go_wp2_with fail
            go_ret
            refine ⟨_, rfl, grownBy_trans HR3.out.1 (by assumption), ?_⟩
            rw [← HCAT.out]
            exact HOW.out

end Go.Proofs.Ytaigdimicnlfdaa
