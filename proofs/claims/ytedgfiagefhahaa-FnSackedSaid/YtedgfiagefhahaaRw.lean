/- One range more: the program's sorted list. -/
import Derived.Test.YtedgfiagefhahaaBdK
import Derived.Test.YtedgfiagefhahaaRwM
namespace Go.Proofs.Ytedgfiagefhahaa
open Go.RowKit

theorem grown_frozen {a b : World} {row : Option Nat} (hg : a.grownBy b row) {p : Addr} {v : Value} (h : a.cell? p = some v) (hne : some p.block ≠ row) {x : Bool} (hf : a.frozen? p = x) : b.frozen? p = x := by
  rw [World.frozen?_of_block (hg.block p.block (World.block_lt_of_cell? a p h) hne)]
  exact hf

structure Two (w : World) (E : Nat) (x y : Value) : Prop where
  a : w.cell? ⟨E, 0, none⟩ = some x
  b : w.cell? ⟨E, 1, none⟩ = some y
  f : w.frozen? ⟨E, 0, none⟩ = false
  g : w.frozen? ⟨E, 1, none⟩ = false

theorem two_new (w : World) (x y : Value) (T : TypeId) : Two (w.alloc (.cells #[x, y] T)) w.heap.size x y := ⟨by go_simp, by go_simp, by go_simp, by go_simp⟩

theorem Two.kept {w w' : World} {E : Nat} {x y : Value} {r : Option Nat} (h : Two w E x y) (hg : w.grownBy w' r) (hne : some E ≠ r) : Two w' E x y :=
  ⟨hg.cell h.a hne, hg.cell h.b hne, grown_frozen hg h.a hne h.f, grown_frozen hg h.b hne h.g⟩


set_option maxRecDepth 100000 in
set_option maxHeartbeats 2000000 in
theorem rover_any (p m x n : Int) (w : World) : Calls Try.prog 72 #[.agg #[.int .i64 p, .int .i64 m], .agg #[.int .i64 x, .int .i64 n]] w fun e w' => e = .returned (.agg #[.int .i64 (min p x), .int .i64 (max m n)]) ∧ w.grownBy w' none := by
  have hg : w.grownBy (((w.alloc (.cells #[.int .i64 p, .int .i64 m] 40)).alloc (.cells #[.int .i64 x, .int .i64 n] 40)).alloc (.cells #[.int .i64 (min p x), .int .i64 (max m n)] 40)) none := grownBy_trans (World.grownBy_alloc _ _ _) (grownBy_trans (World.grownBy_alloc _ _ _) (World.grownBy_alloc _ _ _))
  have HG := Lib.hid hg
  clear hg
  have hmin : (p ≤ x ∧ Hid (min p x = p)) ∨ (¬ p ≤ x ∧ Hid (min p x = x)) := by
    by_cases h : p ≤ x
    · exact .inl ⟨h, Lib.hid (by omega)⟩
    · exact .inr ⟨h, Lib.hid (by omega)⟩
  have hmax : (n ≤ m ∧ Hid (max m n = m)) ∨ (¬ n ≤ m ∧ Hid (max m n = n)) := by
    by_cases h : n ≤ m
    · exact .inl ⟨h, Lib.hid (by omega)⟩
    · exact .inr ⟨h, Lib.hid (by omega)⟩
  rcases hmin with ⟨h1, H1⟩ | ⟨h1, H1⟩
  all_goals
    rcases hmax with ⟨h2, H2⟩ | ⟨h2, H2⟩
    all_goals
      rw [H1.out, H2.out] at HG ⊢
      go_enter Try.func72, Try.ntmps72
      go_wp2
      first | exact bodyPost_ret (v := .agg #[.int .i64 p, .int .i64 m]) (by simp [results, Try.results72, go_sem]) rfl ⟨rfl, HG.out⟩ | exact bodyPost_ret (v := .agg #[.int .i64 p, .int .i64 n]) (by simp [results, Try.results72, go_sem]) rfl ⟨rfl, HG.out⟩ | exact bodyPost_ret (v := .agg #[.int .i64 x, .int .i64 m]) (by simp [results, Try.results72, go_sem]) rfl ⟨rfl, HG.out⟩ | exact bodyPost_ret (v := .agg #[.int .i64 x, .int .i64 n]) (by simp [results, Try.results72, go_sem]) rfl ⟨rfl, HG.out⟩

theorem two_set {w : World} {C : Nat} {x y x' y' : Value} (h : Two w C x y) : Two ((w.setCell ⟨C, 0, none⟩ x').setCell ⟨C, 1, none⟩ y') C x' y' := by
  obtain ⟨a, b, f, g⟩ := h
  exact ⟨by simp [go_sem, a], by simp [go_sem, b], by simp [f], by simp [g]⟩
theorem three_sl {W : World} {g : Nat} {s0 s1 s2 : Value} {l0 l1 l2 : List Rg} (c0 : W.cell? ⟨g, 0, none⟩ = some s0) (c1 : W.cell? ⟨g, 1, none⟩ = some s1) (c2 : W.cell? ⟨g, 2, none⟩ = some s2) (h0 : SlAt W s0 l0) (h1 : SlAt W s1 l1) (h2 : SlAt W s2 l2) : ∀ j (hj : j < [(s0, l0), (s1, l1), (s2, l2)].length), W.cell? ⟨g, j, none⟩ = some ([(s0, l0), (s1, l1), (s2, l2)][j]).1 ∧ SlAt W ([(s0, l0), (s1, l1), (s2, l2)][j]).1 ([(s0, l0), (s1, l1), (s2, l2)][j]).2
  | 0, _ => ⟨c0, h0⟩
  | 1, _ => ⟨c1, h1⟩
  | 2, _ => ⟨c2, h2⟩
theorem sl_one {W : World} {X : Nat} {r : Int} {s : Int} (c0 : W.cell? ⟨X, 0, none⟩ = some (.int .i64 r)) (c1 : W.cell? ⟨X, 1, none⟩ = some (.int .i64 s)) : SlAt W (.slice (some ⟨X, 0, none⟩) 1 1) [(r, s)] := by
  refine .inr ⟨⟨X, 0, none⟩, 1, rfl, fun j u hu => ?_⟩
  obtain ⟨i, hi, hh⟩ := rgsV_at _ j u hu
  obtain rfl : i = 0 := by simp at hi; omega
  rcases hh with ⟨rfl, rfl⟩ | ⟨rfl, rfl⟩
  · rw [add_none]; exact c0
  · rw [add_none]; exact c1
theorem sl_end (w : World) (ad : Addr) (c' : Nat) (l : List Rg) : SlAt w (.slice (some ad) 0 c') (l.drop l.length) :=
  .inr ⟨ad, c', by rw [List.drop_length]; rfl, fun j u hu => by rw [List.drop_length] at hu; simp [rgsV] at hu⟩
def W1Rel (w : World) (l : List Rg) (x : Rg) (i : Value) (wr : World) : Prop :=
  ∃ k : Nat, k ≤ l.length ∧ i = .int .i64 (k : Int) ∧ w.grownBy wr none ∧ Two wr w.heap.size (.int .i64 x.1) (.int .i64 x.2) ∧ withL l x = l.take k ++ withL (l.drop k) x
def W2Rel (w : World) (l : List Rg) (x : Rg) (k : Nat) (i : Value) (wr : World) : Prop :=
  ∃ (j : Nat) (y : Rg), j ≤ l.length ∧ i = .int .i64 (j : Int) ∧ w.grownBy wr none ∧ Two wr w.heap.size (.int .i64 y.1) (.int .i64 y.2) ∧ mergeR (l.drop k) x = mergeR (l.drop j) y

set_option maxRecDepth 100000 in
set_option maxHeartbeats 16000000 in
theorem with_some (b off c : Nat) (l : List Rg) (p : Int) (m : Int) (w : World) (h : RowOk w (some ⟨b, off, none⟩) c l) (hlc0 : l.length ≤ c) (hcm : c ≤ 9223372036854775807) (hok : l.length ≤ 100) :
    Calls Try.prog 41 #[.slice (some ⟨b, off, none⟩) l.length c, .agg #[.int .i64 p, .int .i64 m]] w (CcPost w (withL l (p, m))) := by
  have H := Lib.hid (And.intro h hok)
  have hl60 : l.length ≤ 100 := hok
  have HT := Lib.hid (two_new w (.int .i64 p) (.int .i64 m) 40)
  have HG := Lib.hid (World.grownBy_alloc w (.cells #[.int .i64 p, .int .i64 m] 40) none)
  clear h hok
  go_enter Try.func41, Try.ntmps41
  go_wp2_with fail
  go_loopw [5] (fun i wr => W1Rel w l (p, m) i wr) (fun i _ => l.length - (intOf i).toNat)
  case atStart => exact ⟨0, Nat.zero_le _, rfl, HG.out, HT.out, by simp⟩
  case round =>
    obtain ⟨k, hk, rfl, hg, ht, hwl⟩ := hrel
    have HS := Lib.hid (And.intro hg (And.intro ht hwl))
    clear hg ht hwl
    by_cases hlt : k < l.length
    · obtain ⟨c0, c1⟩ := (H.out.1.kept HS.out.1).cells k hlt
      have hlt' : (k : Int) < (l.length : Int) := by omega
      have hk0 : (0 : Int) ≤ (k : Int) := by omega
      have HD := Lib.hid (List.drop_eq_getElem_cons hlt)
      have HTK := Lib.hid (List.take_succ_eq_append_getElem hlt)
      generalize l[k] = x at *
      obtain ⟨u, v⟩ := x
      dsimp only at c0 c1
      have z0 := HS.out.2.1.a
      have z1 := HS.out.2.1.b
      have z2 := grownBy_trans HS.out.1 (grownBy_drew (r := none))
      have z3 : wr.drew.grownBy wr.drew none := World.grownBy.refl _ _
      by_cases hcmp : v < p
      · have HW := Lib.hid (show withL l (p, m) = l.take (k + 1) ++ withL (l.drop (k + 1)) (p, m) by rw [HS.out.2.2, HD.out, withL, if_pos hcmp, HTK.out, List.append_assoc]; rfl)
        go_wp2_with fail
        go_region_held3 (fun w' => w'.cell? ⟨b, off + k * 2, none⟩ = some (.int .i64 u) ∧ w'.cell? ⟨b, off + k * 2 + 1, none⟩ = some (.int .i64 v) ∧ w'.cell? ⟨w.heap.size, 0, none⟩ = some (.int .i64 p) ∧ w'.cell? ⟨w.heap.size, 1, none⟩ = some (.int .i64 m) ∧ w.grownBy w' none ∧ wr.drew.grownBy w' none) ((refine ⟨by first | assumption | (simp [*]; done), by first | assumption | (simp [*]; done), by first | assumption | (simp [*]; done), by first | assumption | (simp [*]; done), by assumption, by assumption⟩))
          (first
            | (go_at_call 71; refine (rend_any u v _).mono ?_; rintro e w8 ⟨rfl, hg⟩; have y0 := hg.cell (a := ⟨b, off + k * 2, none⟩) (v := .int .i64 u) (by first | assumption | (simp [*]; done)) (by simp); have y1 := hg.cell (a := ⟨b, off + k * 2 + 1, none⟩) (v := .int .i64 v) (by first | assumption | (simp [*]; done)) (by simp); have y2 := hg.cell (a := ⟨w.heap.size, 0, none⟩) (v := .int .i64 p) (by first | assumption | (simp [*]; done)) (by simp); have y3 := hg.cell (a := ⟨w.heap.size, 1, none⟩) (v := .int .i64 m) (by first | assumption | (simp [*]; done)) (by simp); have y4 := grownBy_trans (a := w) (by assumption) hg; have y5 := grownBy_trans (a := wr.drew) (by assumption) hg)
            | (go_at_call 73; refine (rstart_any _ _ _).mono ?_; rintro e w8 ⟨rfl, hg⟩; have y0 := hg.cell (a := ⟨b, off + k * 2, none⟩) (v := .int .i64 u) (by first | assumption | (simp [*]; done)) (by simp); have y1 := hg.cell (a := ⟨b, off + k * 2 + 1, none⟩) (v := .int .i64 v) (by first | assumption | (simp [*]; done)) (by simp); have y2 := hg.cell (a := ⟨w.heap.size, 0, none⟩) (v := .int .i64 p) (by first | assumption | (simp [*]; done)) (by simp); have y3 := hg.cell (a := ⟨w.heap.size, 1, none⟩) (v := .int .i64 m) (by first | assumption | (simp [*]; done)) (by simp); have y4 := grownBy_trans (a := w) (by assumption) hg; have y5 := grownBy_trans (a := wr.drew) (by assumption) hg))
        rename_i hH
        have HR := Lib.hid (And.intro hH.2.2.2.2.1 hH.2.2.2.2.2)
        go_wp2_with fail
        go_roundw
        case rel => exact ⟨k + 1, hlt, by go_num, HR.out.1, (HS.out.2.1.kept (grownBy_drew (r := none)) (by simp)).kept HR.out.2 (by simp), HW.out⟩
        case measure => first | (simp [intOf]; done) | (simp [intOf]; omega)
      · have hcmp2 : decide (v < p) = false := decide_eq_false hcmp
        have HW := Lib.hid (show withL l (p, m) = l.take k ++ mergeR (l.drop k) (p, m) by rw [HS.out.2.2, HD.out, withL, if_neg hcmp])
        go_wp2_with fail
        go_region_held3 (fun w' => w'.cell? ⟨b, off + k * 2, none⟩ = some (.int .i64 u) ∧ w'.cell? ⟨b, off + k * 2 + 1, none⟩ = some (.int .i64 v) ∧ w'.cell? ⟨w.heap.size, 0, none⟩ = some (.int .i64 p) ∧ w'.cell? ⟨w.heap.size, 1, none⟩ = some (.int .i64 m) ∧ w.grownBy w' none ∧ wr.drew.grownBy w' none) ((refine ⟨by first | assumption | (simp [*]; done), by first | assumption | (simp [*]; done), by first | assumption | (simp [*]; done), by first | assumption | (simp [*]; done), by assumption, by assumption⟩))
          (first
            | (go_at_call 71; refine (rend_any u v _).mono ?_; rintro e w8 ⟨rfl, hg⟩; have y0 := hg.cell (a := ⟨b, off + k * 2, none⟩) (v := .int .i64 u) (by first | assumption | (simp [*]; done)) (by simp); have y1 := hg.cell (a := ⟨b, off + k * 2 + 1, none⟩) (v := .int .i64 v) (by first | assumption | (simp [*]; done)) (by simp); have y2 := hg.cell (a := ⟨w.heap.size, 0, none⟩) (v := .int .i64 p) (by first | assumption | (simp [*]; done)) (by simp); have y3 := hg.cell (a := ⟨w.heap.size, 1, none⟩) (v := .int .i64 m) (by first | assumption | (simp [*]; done)) (by simp); have y4 := grownBy_trans (a := w) (by assumption) hg; have y5 := grownBy_trans (a := wr.drew) (by assumption) hg)
            | (go_at_call 73; refine (rstart_any _ _ _).mono ?_; rintro e w8 ⟨rfl, hg⟩; have y0 := hg.cell (a := ⟨b, off + k * 2, none⟩) (v := .int .i64 u) (by first | assumption | (simp [*]; done)) (by simp); have y1 := hg.cell (a := ⟨b, off + k * 2 + 1, none⟩) (v := .int .i64 v) (by first | assumption | (simp [*]; done)) (by simp); have y2 := hg.cell (a := ⟨w.heap.size, 0, none⟩) (v := .int .i64 p) (by first | assumption | (simp [*]; done)) (by simp); have y3 := hg.cell (a := ⟨w.heap.size, 1, none⟩) (v := .int .i64 m) (by first | assumption | (simp [*]; done)) (by simp); have y4 := grownBy_trans (a := w) (by assumption) hg; have y5 := grownBy_trans (a := wr.drew) (by assumption) hg))
        rename_i hH
        have HR := Lib.hid (And.intro hH.2.2.2.2.1 ((HS.out.2.1.kept (grownBy_drew (r := none)) (by simp)).kept hH.2.2.2.2.2 (by simp)))
        clear hH c0 c1 z0 z1 z2 z3
        go_wp2_with fail
        go_loopw [6] (fun i wr2 => W2Rel w l (p, m) k i wr2) (fun i _ => l.length - (intOf i).toNat)
        case atStart => exact ⟨k, (p, m), by omega, rfl, HR.out.1, HR.out.2, rfl⟩
        case round =>
          obtain ⟨j, y, hj, rfl, hg, ht, hme⟩ := hrel
          have HS2 := Lib.hid (And.intro hg (And.intro ht hme))
          clear hg ht hme
          obtain ⟨r, s⟩ := y
          dsimp only at HS2
          by_cases hlt2 : j < l.length
          · · obtain ⟨c0, c1⟩ := (H.out.1.kept HS2.out.1).cells j hlt2
              have hjl : (j : Int) < (l.length : Int) := by omega
              have hj0 : (0 : Int) ≤ (j : Int) := by omega
              have HD2 := Lib.hid (List.drop_eq_getElem_cons hlt2)
              generalize l[j] = x at *
              obtain ⟨u, v⟩ := x
              dsimp only at c0 c1
              have z0 := HS2.out.2.1.a
              have z1 := HS2.out.2.1.b
              have z2 := grownBy_trans HS2.out.1 (grownBy_drew (r := none))
              have z3 : wr.drew.grownBy wr.drew none := World.grownBy.refl _ _
              by_cases hcmp3 : u ≤ s
              · have HMM := Lib.hid (show mergeR (l.drop k) (p, m) = mergeR (l.drop (j + 1)) ((min u r, max v s)) by rw [HS2.out.2.2, HD2.out, mergeR, if_pos hcmp3]; rfl)
                go_wp2_with fail
                go_region_held3 (fun w' => w'.cell? ⟨b, off + j * 2, none⟩ = some (.int .i64 u) ∧ w'.cell? ⟨b, off + j * 2 + 1, none⟩ = some (.int .i64 v) ∧ w'.cell? ⟨w.heap.size, 0, none⟩ = some (.int .i64 r) ∧ w'.cell? ⟨w.heap.size, 1, none⟩ = some (.int .i64 s) ∧ w.grownBy w' none ∧ wr.drew.grownBy w' none) ((refine ⟨by first | assumption | (simp [*]; done), by first | assumption | (simp [*]; done), by first | assumption | (simp [*]; done), by first | assumption | (simp [*]; done), by assumption, by assumption⟩))
                  (first
                    | (go_at_call 71; refine (rend_any r s _).mono ?_; rintro e w8 ⟨rfl, hg⟩; have y0 := hg.cell (a := ⟨b, off + j * 2, none⟩) (v := .int .i64 u) (by first | assumption | (simp [*]; done)) (by simp); have y1 := hg.cell (a := ⟨b, off + j * 2 + 1, none⟩) (v := .int .i64 v) (by first | assumption | (simp [*]; done)) (by simp); have y2 := hg.cell (a := ⟨w.heap.size, 0, none⟩) (v := .int .i64 r) (by first | assumption | (simp [*]; done)) (by simp); have y3 := hg.cell (a := ⟨w.heap.size, 1, none⟩) (v := .int .i64 s) (by first | assumption | (simp [*]; done)) (by simp); have y4 := grownBy_trans (a := w) (by assumption) hg; have y5 := grownBy_trans (a := wr.drew) (by assumption) hg)
                    | (go_at_call 73; refine (rstart_any _ _ _).mono ?_; rintro e w8 ⟨rfl, hg⟩; have y0 := hg.cell (a := ⟨b, off + j * 2, none⟩) (v := .int .i64 u) (by first | assumption | (simp [*]; done)) (by simp); have y1 := hg.cell (a := ⟨b, off + j * 2 + 1, none⟩) (v := .int .i64 v) (by first | assumption | (simp [*]; done)) (by simp); have y2 := hg.cell (a := ⟨w.heap.size, 0, none⟩) (v := .int .i64 r) (by first | assumption | (simp [*]; done)) (by simp); have y3 := hg.cell (a := ⟨w.heap.size, 1, none⟩) (v := .int .i64 s) (by first | assumption | (simp [*]; done)) (by simp); have y4 := grownBy_trans (a := w) (by assumption) hg; have y5 := grownBy_trans (a := wr.drew) (by assumption) hg))
                rename_i hH
                have HR3 := Lib.hid (And.intro hH.2.2.2.2.1 ((HS2.out.2.1.kept (grownBy_drew (r := none)) (by simp)).kept hH.2.2.2.2.2 (by simp)))
                obtain ⟨x0, x1, x2, x3, _, _⟩ := hH
                clear c0 c1 z0 z1 z2 z3
                go_wp2_with fail
                go_still_tail 6, (by kernel_rfl)
                go_wp2_with fail
                refine (rover_any u v r s _).mono ?_
                rintro e w9 ⟨rfl, hg⟩
                have H9 := Lib.hid (And.intro (grownBy_trans (grownBy_trans HR3.out.1 grownBy_drew) hg) ((HR3.out.2.kept (grownBy_drew (r := none)) (by simp)).kept hg (by simp)))
                clear hg x0 x1 x2 x3
                generalize min u r = o1 at *
                generalize max v s = o2 at *
                obtain ⟨a0, a1, a2, a3⟩ := H9.out.2
                have hW : w9.grownBy ((w9.setCell ⟨w.heap.size, 0, none⟩ (.int .i64 o1)).setCell ⟨w.heap.size, 1, none⟩ (.int .i64 o2)) (some w.heap.size) := grownBy_trans (grownBy_set _ _ _ _) (grownBy_set _ _ _ _)
                have HFF := Lib.hid (And.intro (grownBy_new H9.out.1 hW (Nat.le_refl _)) (And.intro (two_set (x' := .int .i64 o1) (y' := .int .i64 o2) H9.out.2) trivial))
                clear hW
                dsimp only
                go_wp2_with fail
                go_roundw
                case rel => exact ⟨j + 1, (o1, o2), hlt2, by go_num, HFF.out.1, HFF.out.2.1, HMM.out⟩
                case measure => first | (simp [intOf]; done) | (simp [intOf]; omega)
              · have hcmp4 : decide (u ≤ s) = false := decide_eq_false hcmp3
                have HMM := Lib.hid (show mergeR (l.drop k) (p, m) = (r, s) :: l.drop j by rw [HS2.out.2.2, HD2.out, mergeR, if_neg hcmp3])
                go_wp2_with fail
                go_region_held3 (fun w' => w'.cell? ⟨b, off + j * 2, none⟩ = some (.int .i64 u) ∧ w'.cell? ⟨b, off + j * 2 + 1, none⟩ = some (.int .i64 v) ∧ w'.cell? ⟨w.heap.size, 0, none⟩ = some (.int .i64 r) ∧ w'.cell? ⟨w.heap.size, 1, none⟩ = some (.int .i64 s) ∧ w.grownBy w' none ∧ wr.drew.grownBy w' none) ((refine ⟨by first | assumption | (simp [*]; done), by first | assumption | (simp [*]; done), by first | assumption | (simp [*]; done), by first | assumption | (simp [*]; done), by assumption, by assumption⟩))
                  (first
                    | (go_at_call 71; refine (rend_any r s _).mono ?_; rintro e w8 ⟨rfl, hg⟩; have y0 := hg.cell (a := ⟨b, off + j * 2, none⟩) (v := .int .i64 u) (by first | assumption | (simp [*]; done)) (by simp); have y1 := hg.cell (a := ⟨b, off + j * 2 + 1, none⟩) (v := .int .i64 v) (by first | assumption | (simp [*]; done)) (by simp); have y2 := hg.cell (a := ⟨w.heap.size, 0, none⟩) (v := .int .i64 r) (by first | assumption | (simp [*]; done)) (by simp); have y3 := hg.cell (a := ⟨w.heap.size, 1, none⟩) (v := .int .i64 s) (by first | assumption | (simp [*]; done)) (by simp); have y4 := grownBy_trans (a := w) (by assumption) hg; have y5 := grownBy_trans (a := wr.drew) (by assumption) hg)
                    | (go_at_call 73; refine (rstart_any _ _ _).mono ?_; rintro e w8 ⟨rfl, hg⟩; have y0 := hg.cell (a := ⟨b, off + j * 2, none⟩) (v := .int .i64 u) (by first | assumption | (simp [*]; done)) (by simp); have y1 := hg.cell (a := ⟨b, off + j * 2 + 1, none⟩) (v := .int .i64 v) (by first | assumption | (simp [*]; done)) (by simp); have y2 := hg.cell (a := ⟨w.heap.size, 0, none⟩) (v := .int .i64 r) (by first | assumption | (simp [*]; done)) (by simp); have y3 := hg.cell (a := ⟨w.heap.size, 1, none⟩) (v := .int .i64 s) (by first | assumption | (simp [*]; done)) (by simp); have y4 := grownBy_trans (a := w) (by assumption) hg; have y5 := grownBy_trans (a := wr.drew) (by assumption) hg))
                rename_i hH
                have HR3 := Lib.hid (And.intro hH.2.2.2.2.1 ((HS2.out.2.1.kept (grownBy_drew (r := none)) (by simp)).kept hH.2.2.2.2.2 (by simp)))
                clear hH c0 c1 z0 z1 z2 z3
                obtain ⟨a0, a1, a2, a3⟩ := HR3.out.2
                obtain ⟨b0, b1, b2, b3⟩ := HR3.out.2.kept (grownBy_drew (r := none)) (by simp)
                have hkc : (k : Int) ≤ (c : Int) := by omega
                have hkc2 : k ≤ c := by omega
                have hkl : k ≤ l.length := by omega
                have hkz : (0 : Int) ≤ (k : Int) := by omega
                have hjz : (0 : Int) ≤ (j : Int) := by omega
                have hjl2 : (j : Int) ≤ (l.length : Int) := by omega
                have hlc : (l.length : Int) ≤ (c : Int) := by omega
                have hcj2 : ¬ c = j := by omega
                have g0 : w8.grownBy w8.drew none := grownBy_drew
                have HCAT := Lib.hid (show catL [((.slice (some ⟨b, off, none⟩) k c : Value), l.take k), ((.slice (some ⟨w8.heap.size, 0, none⟩) 1 1 : Value), [((r, s) : Rg)]), ((.slice (some ⟨b, off + j * 2, none⟩) (l.length - j) (c - j) : Value), l.drop j)] = withL l (p, m) by
                  rw [HW.out, HMM.out]; simp [catL])
                have hcl := with_len l (p, m)
                rw [← HCAT.out] at hcl
                have hcl0 : 0 < (catL [((.slice (some ⟨b, off, none⟩) k c : Value), l.take k), ((.slice (some ⟨w8.heap.size, 0, none⟩) 1 1 : Value), [((r, s) : Rg)]), ((.slice (some ⟨b, off + j * 2, none⟩) (l.length - j) (c - j) : Value), l.drop j)]).length := by simp [catL]; try omega
                have HCL := Lib.hid (And.intro hcl0 hcl)
                clear hcl0 hcl
                go_wp2_with fail
                go_region_held3 (fun w' => w'.cell? ⟨w.heap.size, 0, none⟩ = some (.int .i64 r) ∧ w'.cell? ⟨w.heap.size, 1, none⟩ = some (.int .i64 s) ∧ w8.grownBy w' none) ((refine ⟨by first | assumption | exact (World.grownBy_alloc _ _ none).cell (by assumption) (by simp) | exact (World.grownBy_alloc _ _ none).cell ((World.grownBy_alloc _ _ none).cell (by assumption) (by simp)) (by simp) | (simp [*]; done), by first | assumption | exact (World.grownBy_alloc _ _ none).cell (by assumption) (by simp) | exact (World.grownBy_alloc _ _ none).cell ((World.grownBy_alloc _ _ none).cell (by assumption) (by simp)) (by simp) | (simp [*]; done), by first | assumption | exact grownBy_drew | exact grownBy_trans (World.grownBy_alloc _ _ _) grownBy_drew | exact grownBy_trans (World.grownBy_alloc _ _ _) (grownBy_trans (World.grownBy_alloc _ _ _) grownBy_drew) | exact grownBy_trans (World.grownBy_alloc _ _ _) (World.grownBy_alloc _ _ _) | exact World.grownBy_alloc _ _ _⟩))
                  (first | (go_at_call 50; have gW : w8.grownBy ((w8.alloc (.cells #[.int .i64 r, .int .i64 s] 40)).alloc (.cells #[.slice (some ⟨b, off, none⟩) k c, .slice (some ⟨w8.heap.size, 0, none⟩) 1 1, .slice (some ⟨b, off + j * 2, none⟩) (l.length - j) (c - j)] 54)).drew none := grownBy_trans (World.grownBy_alloc _ _ _) (grownBy_trans (World.grownBy_alloc _ _ _) grownBy_drew); refine (concat_any (w8.heap.size + 1) 3 [((.slice (some ⟨b, off, none⟩) k c : Value), l.take k), ((.slice (some ⟨w8.heap.size, 0, none⟩) 1 1 : Value), [((r, s) : Rg)]), ((.slice (some ⟨b, off + j * 2, none⟩) (l.length - j) (c - j) : Value), l.drop j)] _ (three_sl (by go_simp) (by go_simp) (by go_simp) (sl_take (H.out.1.kept (grownBy_trans HR3.out.1 gW)) hkl) (sl_one (by go_simp) (by go_simp)) (sl_drop (H.out.1.kept (grownBy_trans HR3.out.1 gW)) (by omega) rfl)) (by simp) HCL.out.1 (by have := HCL.out.2; omega)).mono ?_; rintro e w9 ⟨v9, rfl, hg, ho⟩; have q0 := hg.cell (gW.cell a0 (by simp)) (by simp); have q1 := hg.cell (gW.cell a1 (by simp)) (by simp); have q2 := grownBy_trans gW hg; have HOW := Lib.hid (own_base ho (grownBy_trans HR3.out.1 gW).size)))
                go_wp2_with fail
                go_ret
                refine ⟨_, rfl, grownBy_trans HR3.out.1 (by assumption), ?_⟩
                rw [← HCAT.out]
                exact HOW.out
          · obtain rfl : j = l.length := by omega
            have HMM := Lib.hid (show mergeR (l.drop k) (p, m) = (r, s) :: l.drop l.length by rw [HS2.out.2.2, List.drop_length]; rfl)
            by_cases hcj : c = l.length
            · subst hcj
              go_wp2_with fail
              go_quiet (fail)
              have HR3 := Lib.hid (And.intro (grownBy_trans HS2.out.1 (grownBy_drewN (r := none) nq)) (HS2.out.2.1.kept (grownBy_drewN (r := none) nq) (by simp)))
              generalize hw8 : (wr.drewN nq) = w8 at *
              clear hw8
              obtain ⟨a0, a1, a2, a3⟩ := HR3.out.2
              obtain ⟨b0, b1, b2, b3⟩ := HR3.out.2.kept (grownBy_drew (r := none)) (by simp)
              have hkc : (k : Int) ≤ (l.length : Int) := by omega
              have hkc2 : k ≤ l.length := by omega
              have hkl : k ≤ l.length := by omega
              have hkz : (0 : Int) ≤ (k : Int) := by omega
              have hjz : (0 : Int) ≤ (l.length : Int) := by omega
              have hjl2 : (l.length : Int) ≤ (l.length : Int) := by omega
              have hlc : (l.length : Int) ≤ (l.length : Int) := by omega
              have g0 : w8.grownBy w8.drew none := grownBy_drew
              have HCAT := Lib.hid (show catL [((.slice (some ⟨b, off, none⟩) k l.length : Value), l.take k), ((.slice (some ⟨w8.heap.size, 0, none⟩) 1 1 : Value), [((r, s) : Rg)]), ((.slice (some ⟨b, off, none⟩) 0 0 : Value), l.drop l.length)] = withL l (p, m) by
                rw [HW.out, HMM.out]; simp [catL])
              have hcl := with_len l (p, m)
              rw [← HCAT.out] at hcl
              have hcl0 : 0 < (catL [((.slice (some ⟨b, off, none⟩) k l.length : Value), l.take k), ((.slice (some ⟨w8.heap.size, 0, none⟩) 1 1 : Value), [((r, s) : Rg)]), ((.slice (some ⟨b, off, none⟩) 0 0 : Value), l.drop l.length)]).length := by simp [catL]; try omega
              have HCL := Lib.hid (And.intro hcl0 hcl)
              clear hcl0 hcl
              go_wp2_with fail
              go_region_held3 (fun w' => w'.cell? ⟨w.heap.size, 0, none⟩ = some (.int .i64 r) ∧ w'.cell? ⟨w.heap.size, 1, none⟩ = some (.int .i64 s) ∧ w8.grownBy w' none) ((refine ⟨by first | assumption | exact (World.grownBy_alloc _ _ none).cell (by assumption) (by simp) | exact (World.grownBy_alloc _ _ none).cell ((World.grownBy_alloc _ _ none).cell (by assumption) (by simp)) (by simp) | (simp [*]; done), by first | assumption | exact (World.grownBy_alloc _ _ none).cell (by assumption) (by simp) | exact (World.grownBy_alloc _ _ none).cell ((World.grownBy_alloc _ _ none).cell (by assumption) (by simp)) (by simp) | (simp [*]; done), by first | assumption | exact grownBy_drew | exact grownBy_trans (World.grownBy_alloc _ _ _) grownBy_drew | exact grownBy_trans (World.grownBy_alloc _ _ _) (grownBy_trans (World.grownBy_alloc _ _ _) grownBy_drew) | exact grownBy_trans (World.grownBy_alloc _ _ _) (World.grownBy_alloc _ _ _) | exact World.grownBy_alloc _ _ _⟩))
                (first | (go_at_call 50; have gW : w8.grownBy ((w8.alloc (.cells #[.int .i64 r, .int .i64 s] 40)).alloc (.cells #[.slice (some ⟨b, off, none⟩) k l.length, .slice (some ⟨w8.heap.size, 0, none⟩) 1 1, .slice (some ⟨b, off, none⟩) 0 0] 54)).drew none := grownBy_trans (World.grownBy_alloc _ _ _) (grownBy_trans (World.grownBy_alloc _ _ _) grownBy_drew); refine (concat_any (w8.heap.size + 1) 3 [((.slice (some ⟨b, off, none⟩) k l.length : Value), l.take k), ((.slice (some ⟨w8.heap.size, 0, none⟩) 1 1 : Value), [((r, s) : Rg)]), ((.slice (some ⟨b, off, none⟩) 0 0 : Value), l.drop l.length)] _ (three_sl (by go_simp) (by go_simp) (by go_simp) (sl_take (H.out.1.kept (grownBy_trans HR3.out.1 gW)) hkl) (sl_one (by go_simp) (by go_simp)) (sl_end _ _ _ _)) (by simp) HCL.out.1 (by have := HCL.out.2; omega)).mono ?_; rintro e w9 ⟨v9, rfl, hg, ho⟩; have q0 := hg.cell (gW.cell a0 (by simp)) (by simp); have q1 := hg.cell (gW.cell a1 (by simp)) (by simp); have q2 := grownBy_trans gW hg; have HOW := Lib.hid (own_base ho (grownBy_trans HR3.out.1 gW).size)))
              go_wp2_with fail
              go_ret
              refine ⟨_, rfl, grownBy_trans HR3.out.1 (by assumption), ?_⟩
              rw [← HCAT.out]
              exact HOW.out
            · go_wp2_with fail
              go_quiet (fail)
              have HR3 := Lib.hid (And.intro (grownBy_trans HS2.out.1 (grownBy_drewN (r := none) nq)) (HS2.out.2.1.kept (grownBy_drewN (r := none) nq) (by simp)))
              generalize hw8 : (wr.drewN nq) = w8 at *
              clear hw8
              obtain ⟨a0, a1, a2, a3⟩ := HR3.out.2
              obtain ⟨b0, b1, b2, b3⟩ := HR3.out.2.kept (grownBy_drew (r := none)) (by simp)
              have hkc : (k : Int) ≤ (c : Int) := by omega
              have hkc2 : k ≤ c := by omega
              have hkl : k ≤ l.length := by omega
              have hkz : (0 : Int) ≤ (k : Int) := by omega
              have hjz : (0 : Int) ≤ (l.length : Int) := by omega
              have hjl2 : (l.length : Int) ≤ (l.length : Int) := by omega
              have hlc : (l.length : Int) ≤ (c : Int) := by omega
              have hcj2 : ¬ c = l.length := hcj
              have g0 : w8.grownBy w8.drew none := grownBy_drew
              have HCAT := Lib.hid (show catL [((.slice (some ⟨b, off, none⟩) k c : Value), l.take k), ((.slice (some ⟨w8.heap.size, 0, none⟩) 1 1 : Value), [((r, s) : Rg)]), ((.slice (some ⟨b, off + l.length * 2, none⟩) 0 (c - l.length) : Value), l.drop l.length)] = withL l (p, m) by
                rw [HW.out, HMM.out]; simp [catL])
              have hcl := with_len l (p, m)
              rw [← HCAT.out] at hcl
              have hcl0 : 0 < (catL [((.slice (some ⟨b, off, none⟩) k c : Value), l.take k), ((.slice (some ⟨w8.heap.size, 0, none⟩) 1 1 : Value), [((r, s) : Rg)]), ((.slice (some ⟨b, off + l.length * 2, none⟩) 0 (c - l.length) : Value), l.drop l.length)]).length := by simp [catL]; try omega
              have HCL := Lib.hid (And.intro hcl0 hcl)
              clear hcl0 hcl
              go_wp2_with fail
              go_region_held3 (fun w' => w'.cell? ⟨w.heap.size, 0, none⟩ = some (.int .i64 r) ∧ w'.cell? ⟨w.heap.size, 1, none⟩ = some (.int .i64 s) ∧ w8.grownBy w' none) ((refine ⟨by first | assumption | exact (World.grownBy_alloc _ _ none).cell (by assumption) (by simp) | exact (World.grownBy_alloc _ _ none).cell ((World.grownBy_alloc _ _ none).cell (by assumption) (by simp)) (by simp) | (simp [*]; done), by first | assumption | exact (World.grownBy_alloc _ _ none).cell (by assumption) (by simp) | exact (World.grownBy_alloc _ _ none).cell ((World.grownBy_alloc _ _ none).cell (by assumption) (by simp)) (by simp) | (simp [*]; done), by first | assumption | exact grownBy_drew | exact grownBy_trans (World.grownBy_alloc _ _ _) grownBy_drew | exact grownBy_trans (World.grownBy_alloc _ _ _) (grownBy_trans (World.grownBy_alloc _ _ _) grownBy_drew) | exact grownBy_trans (World.grownBy_alloc _ _ _) (World.grownBy_alloc _ _ _) | exact World.grownBy_alloc _ _ _⟩))
                (first | (go_at_call 50; have gW : w8.grownBy ((w8.alloc (.cells #[.int .i64 r, .int .i64 s] 40)).alloc (.cells #[.slice (some ⟨b, off, none⟩) k c, .slice (some ⟨w8.heap.size, 0, none⟩) 1 1, .slice (some ⟨b, off + l.length * 2, none⟩) 0 (c - l.length)] 54)).drew none := grownBy_trans (World.grownBy_alloc _ _ _) (grownBy_trans (World.grownBy_alloc _ _ _) grownBy_drew); refine (concat_any (w8.heap.size + 1) 3 [((.slice (some ⟨b, off, none⟩) k c : Value), l.take k), ((.slice (some ⟨w8.heap.size, 0, none⟩) 1 1 : Value), [((r, s) : Rg)]), ((.slice (some ⟨b, off + l.length * 2, none⟩) 0 (c - l.length) : Value), l.drop l.length)] _ (three_sl (by go_simp) (by go_simp) (by go_simp) (sl_take (H.out.1.kept (grownBy_trans HR3.out.1 gW)) hkl) (sl_one (by go_simp) (by go_simp)) (sl_end _ _ _ _)) (by simp) HCL.out.1 (by have := HCL.out.2; omega)).mono ?_; rintro e w9 ⟨v9, rfl, hg, ho⟩; have q0 := hg.cell (gW.cell a0 (by simp)) (by simp); have q1 := hg.cell (gW.cell a1 (by simp)) (by simp); have q2 := grownBy_trans gW hg; have HOW := Lib.hid (own_base ho (grownBy_trans HR3.out.1 gW).size)))
              go_wp2_with fail
              go_ret
              refine ⟨_, rfl, grownBy_trans HR3.out.1 (by assumption), ?_⟩
              rw [← HCAT.out]
              exact HOW.out
    · obtain rfl : k = l.length := by omega
      have HW := Lib.hid (show withL l (p, m) = l.take l.length ++ mergeR (l.drop l.length) (p, m) by rw [HS.out.2.2, List.drop_length]; rfl)
      go_wp2_with fail
      go_quiet (fail)
      have HR := Lib.hid (And.intro (grownBy_trans HS.out.1 (grownBy_drewN (r := none) nq)) (HS.out.2.1.kept (grownBy_drewN (r := none) nq) (by simp)))
      have hlt : l.length ≤ l.length := Nat.le_refl _
      go_wp2_with fail
      go_loopw [6] (fun i wr2 => W2Rel w l (p, m) l.length i wr2) (fun i _ => l.length - (intOf i).toNat)
      case atStart => exact ⟨l.length, (p, m), by omega, rfl, HR.out.1, HR.out.2, rfl⟩
      case round =>
        obtain ⟨j, y, hj, rfl, hg, ht, hme⟩ := hrel
        have HS2 := Lib.hid (And.intro hg (And.intro ht hme))
        clear hg ht hme
        obtain ⟨r, s⟩ := y
        dsimp only at HS2
        by_cases hlt2 : j < l.length
        · · obtain ⟨c0, c1⟩ := (H.out.1.kept HS2.out.1).cells j hlt2
            have hjl : (j : Int) < (l.length : Int) := by omega
            have hj0 : (0 : Int) ≤ (j : Int) := by omega
            have HD2 := Lib.hid (List.drop_eq_getElem_cons hlt2)
            generalize l[j] = x at *
            obtain ⟨u, v⟩ := x
            dsimp only at c0 c1
            have z0 := HS2.out.2.1.a
            have z1 := HS2.out.2.1.b
            have z2 := grownBy_trans HS2.out.1 (grownBy_drew (r := none))
            have z3 : wr.drew.grownBy wr.drew none := World.grownBy.refl _ _
            by_cases hcmp3 : u ≤ s
            · have HMM := Lib.hid (show mergeR (l.drop l.length) (p, m) = mergeR (l.drop (j + 1)) ((min u r, max v s)) by rw [HS2.out.2.2, HD2.out, mergeR, if_pos hcmp3]; rfl)
              go_wp2_with fail
              go_region_held3 (fun w' => w'.cell? ⟨b, off + j * 2, none⟩ = some (.int .i64 u) ∧ w'.cell? ⟨b, off + j * 2 + 1, none⟩ = some (.int .i64 v) ∧ w'.cell? ⟨w.heap.size, 0, none⟩ = some (.int .i64 r) ∧ w'.cell? ⟨w.heap.size, 1, none⟩ = some (.int .i64 s) ∧ w.grownBy w' none ∧ wr.drew.grownBy w' none) ((refine ⟨by first | assumption | (simp [*]; done), by first | assumption | (simp [*]; done), by first | assumption | (simp [*]; done), by first | assumption | (simp [*]; done), by assumption, by assumption⟩))
                (first
                  | (go_at_call 71; refine (rend_any r s _).mono ?_; rintro e w8 ⟨rfl, hg⟩; have y0 := hg.cell (a := ⟨b, off + j * 2, none⟩) (v := .int .i64 u) (by first | assumption | (simp [*]; done)) (by simp); have y1 := hg.cell (a := ⟨b, off + j * 2 + 1, none⟩) (v := .int .i64 v) (by first | assumption | (simp [*]; done)) (by simp); have y2 := hg.cell (a := ⟨w.heap.size, 0, none⟩) (v := .int .i64 r) (by first | assumption | (simp [*]; done)) (by simp); have y3 := hg.cell (a := ⟨w.heap.size, 1, none⟩) (v := .int .i64 s) (by first | assumption | (simp [*]; done)) (by simp); have y4 := grownBy_trans (a := w) (by assumption) hg; have y5 := grownBy_trans (a := wr.drew) (by assumption) hg)
                  | (go_at_call 73; refine (rstart_any _ _ _).mono ?_; rintro e w8 ⟨rfl, hg⟩; have y0 := hg.cell (a := ⟨b, off + j * 2, none⟩) (v := .int .i64 u) (by first | assumption | (simp [*]; done)) (by simp); have y1 := hg.cell (a := ⟨b, off + j * 2 + 1, none⟩) (v := .int .i64 v) (by first | assumption | (simp [*]; done)) (by simp); have y2 := hg.cell (a := ⟨w.heap.size, 0, none⟩) (v := .int .i64 r) (by first | assumption | (simp [*]; done)) (by simp); have y3 := hg.cell (a := ⟨w.heap.size, 1, none⟩) (v := .int .i64 s) (by first | assumption | (simp [*]; done)) (by simp); have y4 := grownBy_trans (a := w) (by assumption) hg; have y5 := grownBy_trans (a := wr.drew) (by assumption) hg))
              rename_i hH
              have HR3 := Lib.hid (And.intro hH.2.2.2.2.1 ((HS2.out.2.1.kept (grownBy_drew (r := none)) (by simp)).kept hH.2.2.2.2.2 (by simp)))
              obtain ⟨x0, x1, x2, x3, _, _⟩ := hH
              clear c0 c1 z0 z1 z2 z3
              go_wp2_with fail
              go_still_tail 6, (by kernel_rfl)
              go_wp2_with fail
              refine (rover_any u v r s _).mono ?_
              rintro e w9 ⟨rfl, hg⟩
              have H9 := Lib.hid (And.intro (grownBy_trans (grownBy_trans HR3.out.1 grownBy_drew) hg) ((HR3.out.2.kept (grownBy_drew (r := none)) (by simp)).kept hg (by simp)))
              clear hg x0 x1 x2 x3
              generalize min u r = o1 at *
              generalize max v s = o2 at *
              obtain ⟨a0, a1, a2, a3⟩ := H9.out.2
              have hW : w9.grownBy ((w9.setCell ⟨w.heap.size, 0, none⟩ (.int .i64 o1)).setCell ⟨w.heap.size, 1, none⟩ (.int .i64 o2)) (some w.heap.size) := grownBy_trans (grownBy_set _ _ _ _) (grownBy_set _ _ _ _)
              have HFF := Lib.hid (And.intro (grownBy_new H9.out.1 hW (Nat.le_refl _)) (And.intro (two_set (x' := .int .i64 o1) (y' := .int .i64 o2) H9.out.2) trivial))
              clear hW
              dsimp only
              go_wp2_with fail
              go_roundw
              case rel => exact ⟨j + 1, (o1, o2), hlt2, by go_num, HFF.out.1, HFF.out.2.1, HMM.out⟩
              case measure => first | (simp [intOf]; done) | (simp [intOf]; omega)
            · have hcmp4 : decide (u ≤ s) = false := decide_eq_false hcmp3
              have HMM := Lib.hid (show mergeR (l.drop l.length) (p, m) = (r, s) :: l.drop j by rw [HS2.out.2.2, HD2.out, mergeR, if_neg hcmp3])
              go_wp2_with fail
              go_region_held3 (fun w' => w'.cell? ⟨b, off + j * 2, none⟩ = some (.int .i64 u) ∧ w'.cell? ⟨b, off + j * 2 + 1, none⟩ = some (.int .i64 v) ∧ w'.cell? ⟨w.heap.size, 0, none⟩ = some (.int .i64 r) ∧ w'.cell? ⟨w.heap.size, 1, none⟩ = some (.int .i64 s) ∧ w.grownBy w' none ∧ wr.drew.grownBy w' none) ((refine ⟨by first | assumption | (simp [*]; done), by first | assumption | (simp [*]; done), by first | assumption | (simp [*]; done), by first | assumption | (simp [*]; done), by assumption, by assumption⟩))
                (first
                  | (go_at_call 71; refine (rend_any r s _).mono ?_; rintro e w8 ⟨rfl, hg⟩; have y0 := hg.cell (a := ⟨b, off + j * 2, none⟩) (v := .int .i64 u) (by first | assumption | (simp [*]; done)) (by simp); have y1 := hg.cell (a := ⟨b, off + j * 2 + 1, none⟩) (v := .int .i64 v) (by first | assumption | (simp [*]; done)) (by simp); have y2 := hg.cell (a := ⟨w.heap.size, 0, none⟩) (v := .int .i64 r) (by first | assumption | (simp [*]; done)) (by simp); have y3 := hg.cell (a := ⟨w.heap.size, 1, none⟩) (v := .int .i64 s) (by first | assumption | (simp [*]; done)) (by simp); have y4 := grownBy_trans (a := w) (by assumption) hg; have y5 := grownBy_trans (a := wr.drew) (by assumption) hg)
                  | (go_at_call 73; refine (rstart_any _ _ _).mono ?_; rintro e w8 ⟨rfl, hg⟩; have y0 := hg.cell (a := ⟨b, off + j * 2, none⟩) (v := .int .i64 u) (by first | assumption | (simp [*]; done)) (by simp); have y1 := hg.cell (a := ⟨b, off + j * 2 + 1, none⟩) (v := .int .i64 v) (by first | assumption | (simp [*]; done)) (by simp); have y2 := hg.cell (a := ⟨w.heap.size, 0, none⟩) (v := .int .i64 r) (by first | assumption | (simp [*]; done)) (by simp); have y3 := hg.cell (a := ⟨w.heap.size, 1, none⟩) (v := .int .i64 s) (by first | assumption | (simp [*]; done)) (by simp); have y4 := grownBy_trans (a := w) (by assumption) hg; have y5 := grownBy_trans (a := wr.drew) (by assumption) hg))
              rename_i hH
              have HR3 := Lib.hid (And.intro hH.2.2.2.2.1 ((HS2.out.2.1.kept (grownBy_drew (r := none)) (by simp)).kept hH.2.2.2.2.2 (by simp)))
              clear hH c0 c1 z0 z1 z2 z3
              obtain ⟨a0, a1, a2, a3⟩ := HR3.out.2
              obtain ⟨b0, b1, b2, b3⟩ := HR3.out.2.kept (grownBy_drew (r := none)) (by simp)
              have hkc : (l.length : Int) ≤ (c : Int) := by omega
              have hkc2 : l.length ≤ c := by omega
              have hkl : l.length ≤ l.length := by omega
              have hkz : (0 : Int) ≤ (l.length : Int) := by omega
              have hjz : (0 : Int) ≤ (j : Int) := by omega
              have hjl2 : (j : Int) ≤ (l.length : Int) := by omega
              have hlc : (l.length : Int) ≤ (c : Int) := by omega
              have hcj2 : ¬ c = j := by omega
              have g0 : w8.grownBy w8.drew none := grownBy_drew
              have HCAT := Lib.hid (show catL [((.slice (some ⟨b, off, none⟩) l.length c : Value), l.take l.length), ((.slice (some ⟨w8.heap.size, 0, none⟩) 1 1 : Value), [((r, s) : Rg)]), ((.slice (some ⟨b, off + j * 2, none⟩) (l.length - j) (c - j) : Value), l.drop j)] = withL l (p, m) by
                rw [HW.out, HMM.out]; simp [catL])
              have hcl := with_len l (p, m)
              rw [← HCAT.out] at hcl
              have hcl0 : 0 < (catL [((.slice (some ⟨b, off, none⟩) l.length c : Value), l.take l.length), ((.slice (some ⟨w8.heap.size, 0, none⟩) 1 1 : Value), [((r, s) : Rg)]), ((.slice (some ⟨b, off + j * 2, none⟩) (l.length - j) (c - j) : Value), l.drop j)]).length := by simp [catL]; try omega
              have HCL := Lib.hid (And.intro hcl0 hcl)
              clear hcl0 hcl
              go_wp2_with fail
              go_region_held3 (fun w' => w'.cell? ⟨w.heap.size, 0, none⟩ = some (.int .i64 r) ∧ w'.cell? ⟨w.heap.size, 1, none⟩ = some (.int .i64 s) ∧ w8.grownBy w' none) ((refine ⟨by first | assumption | exact (World.grownBy_alloc _ _ none).cell (by assumption) (by simp) | exact (World.grownBy_alloc _ _ none).cell ((World.grownBy_alloc _ _ none).cell (by assumption) (by simp)) (by simp) | (simp [*]; done), by first | assumption | exact (World.grownBy_alloc _ _ none).cell (by assumption) (by simp) | exact (World.grownBy_alloc _ _ none).cell ((World.grownBy_alloc _ _ none).cell (by assumption) (by simp)) (by simp) | (simp [*]; done), by first | assumption | exact grownBy_drew | exact grownBy_trans (World.grownBy_alloc _ _ _) grownBy_drew | exact grownBy_trans (World.grownBy_alloc _ _ _) (grownBy_trans (World.grownBy_alloc _ _ _) grownBy_drew) | exact grownBy_trans (World.grownBy_alloc _ _ _) (World.grownBy_alloc _ _ _) | exact World.grownBy_alloc _ _ _⟩))
                (first | (go_at_call 50; have gW : w8.grownBy ((w8.alloc (.cells #[.int .i64 r, .int .i64 s] 40)).alloc (.cells #[.slice (some ⟨b, off, none⟩) l.length c, .slice (some ⟨w8.heap.size, 0, none⟩) 1 1, .slice (some ⟨b, off + j * 2, none⟩) (l.length - j) (c - j)] 54)).drew none := grownBy_trans (World.grownBy_alloc _ _ _) (grownBy_trans (World.grownBy_alloc _ _ _) grownBy_drew); refine (concat_any (w8.heap.size + 1) 3 [((.slice (some ⟨b, off, none⟩) l.length c : Value), l.take l.length), ((.slice (some ⟨w8.heap.size, 0, none⟩) 1 1 : Value), [((r, s) : Rg)]), ((.slice (some ⟨b, off + j * 2, none⟩) (l.length - j) (c - j) : Value), l.drop j)] _ (three_sl (by go_simp) (by go_simp) (by go_simp) (sl_take (H.out.1.kept (grownBy_trans HR3.out.1 gW)) hkl) (sl_one (by go_simp) (by go_simp)) (sl_drop (H.out.1.kept (grownBy_trans HR3.out.1 gW)) (by omega) rfl)) (by simp) HCL.out.1 (by have := HCL.out.2; omega)).mono ?_; rintro e w9 ⟨v9, rfl, hg, ho⟩; have q0 := hg.cell (gW.cell a0 (by simp)) (by simp); have q1 := hg.cell (gW.cell a1 (by simp)) (by simp); have q2 := grownBy_trans gW hg; have HOW := Lib.hid (own_base ho (grownBy_trans HR3.out.1 gW).size)))
              go_wp2_with fail
              go_ret
              refine ⟨_, rfl, grownBy_trans HR3.out.1 (by assumption), ?_⟩
              rw [← HCAT.out]
              exact HOW.out
        · obtain rfl : j = l.length := by omega
          have HMM := Lib.hid (show mergeR (l.drop l.length) (p, m) = (r, s) :: l.drop l.length by rw [HS2.out.2.2, List.drop_length]; rfl)
          by_cases hcj : c = l.length
          · subst hcj
            go_wp2_with fail
            go_quiet (fail)
            have HR3 := Lib.hid (And.intro (grownBy_trans HS2.out.1 (grownBy_drewN (r := none) nq)) (HS2.out.2.1.kept (grownBy_drewN (r := none) nq) (by simp)))
            generalize hw8 : (wr.drewN nq) = w8 at *
            clear hw8
            obtain ⟨a0, a1, a2, a3⟩ := HR3.out.2
            obtain ⟨b0, b1, b2, b3⟩ := HR3.out.2.kept (grownBy_drew (r := none)) (by simp)
            have hkc : (l.length : Int) ≤ (l.length : Int) := by omega
            have hkc2 : l.length ≤ l.length := by omega
            have hkl : l.length ≤ l.length := by omega
            have hkz : (0 : Int) ≤ (l.length : Int) := by omega
            have hjz : (0 : Int) ≤ (l.length : Int) := by omega
            have hjl2 : (l.length : Int) ≤ (l.length : Int) := by omega
            have hlc : (l.length : Int) ≤ (l.length : Int) := by omega
            have g0 : w8.grownBy w8.drew none := grownBy_drew
            have HCAT := Lib.hid (show catL [((.slice (some ⟨b, off, none⟩) l.length l.length : Value), l.take l.length), ((.slice (some ⟨w8.heap.size, 0, none⟩) 1 1 : Value), [((r, s) : Rg)]), ((.slice (some ⟨b, off, none⟩) 0 0 : Value), l.drop l.length)] = withL l (p, m) by
              rw [HW.out, HMM.out]; simp [catL])
            have hcl := with_len l (p, m)
            rw [← HCAT.out] at hcl
            have hcl0 : 0 < (catL [((.slice (some ⟨b, off, none⟩) l.length l.length : Value), l.take l.length), ((.slice (some ⟨w8.heap.size, 0, none⟩) 1 1 : Value), [((r, s) : Rg)]), ((.slice (some ⟨b, off, none⟩) 0 0 : Value), l.drop l.length)]).length := by simp [catL]; try omega
            have HCL := Lib.hid (And.intro hcl0 hcl)
            clear hcl0 hcl
            go_wp2_with fail
            go_region_held3 (fun w' => w'.cell? ⟨w.heap.size, 0, none⟩ = some (.int .i64 r) ∧ w'.cell? ⟨w.heap.size, 1, none⟩ = some (.int .i64 s) ∧ w8.grownBy w' none) ((refine ⟨by first | assumption | exact (World.grownBy_alloc _ _ none).cell (by assumption) (by simp) | exact (World.grownBy_alloc _ _ none).cell ((World.grownBy_alloc _ _ none).cell (by assumption) (by simp)) (by simp) | (simp [*]; done), by first | assumption | exact (World.grownBy_alloc _ _ none).cell (by assumption) (by simp) | exact (World.grownBy_alloc _ _ none).cell ((World.grownBy_alloc _ _ none).cell (by assumption) (by simp)) (by simp) | (simp [*]; done), by first | assumption | exact grownBy_drew | exact grownBy_trans (World.grownBy_alloc _ _ _) grownBy_drew | exact grownBy_trans (World.grownBy_alloc _ _ _) (grownBy_trans (World.grownBy_alloc _ _ _) grownBy_drew) | exact grownBy_trans (World.grownBy_alloc _ _ _) (World.grownBy_alloc _ _ _) | exact World.grownBy_alloc _ _ _⟩))
              (first | (go_at_call 50; have gW : w8.grownBy ((w8.alloc (.cells #[.int .i64 r, .int .i64 s] 40)).alloc (.cells #[.slice (some ⟨b, off, none⟩) l.length l.length, .slice (some ⟨w8.heap.size, 0, none⟩) 1 1, .slice (some ⟨b, off, none⟩) 0 0] 54)).drew none := grownBy_trans (World.grownBy_alloc _ _ _) (grownBy_trans (World.grownBy_alloc _ _ _) grownBy_drew); refine (concat_any (w8.heap.size + 1) 3 [((.slice (some ⟨b, off, none⟩) l.length l.length : Value), l.take l.length), ((.slice (some ⟨w8.heap.size, 0, none⟩) 1 1 : Value), [((r, s) : Rg)]), ((.slice (some ⟨b, off, none⟩) 0 0 : Value), l.drop l.length)] _ (three_sl (by go_simp) (by go_simp) (by go_simp) (sl_take (H.out.1.kept (grownBy_trans HR3.out.1 gW)) hkl) (sl_one (by go_simp) (by go_simp)) (sl_end _ _ _ _)) (by simp) HCL.out.1 (by have := HCL.out.2; omega)).mono ?_; rintro e w9 ⟨v9, rfl, hg, ho⟩; have q0 := hg.cell (gW.cell a0 (by simp)) (by simp); have q1 := hg.cell (gW.cell a1 (by simp)) (by simp); have q2 := grownBy_trans gW hg; have HOW := Lib.hid (own_base ho (grownBy_trans HR3.out.1 gW).size)))
            go_wp2_with fail
            go_ret
            refine ⟨_, rfl, grownBy_trans HR3.out.1 (by assumption), ?_⟩
            rw [← HCAT.out]
            exact HOW.out
          · go_wp2_with fail
            go_quiet (fail)
            have HR3 := Lib.hid (And.intro (grownBy_trans HS2.out.1 (grownBy_drewN (r := none) nq)) (HS2.out.2.1.kept (grownBy_drewN (r := none) nq) (by simp)))
            generalize hw8 : (wr.drewN nq) = w8 at *
            clear hw8
            obtain ⟨a0, a1, a2, a3⟩ := HR3.out.2
            obtain ⟨b0, b1, b2, b3⟩ := HR3.out.2.kept (grownBy_drew (r := none)) (by simp)
            have hkc : (l.length : Int) ≤ (c : Int) := by omega
            have hkc2 : l.length ≤ c := by omega
            have hkl : l.length ≤ l.length := by omega
            have hkz : (0 : Int) ≤ (l.length : Int) := by omega
            have hjz : (0 : Int) ≤ (l.length : Int) := by omega
            have hjl2 : (l.length : Int) ≤ (l.length : Int) := by omega
            have hlc : (l.length : Int) ≤ (c : Int) := by omega
            have hcj2 : ¬ c = l.length := hcj
            have g0 : w8.grownBy w8.drew none := grownBy_drew
            have HCAT := Lib.hid (show catL [((.slice (some ⟨b, off, none⟩) l.length c : Value), l.take l.length), ((.slice (some ⟨w8.heap.size, 0, none⟩) 1 1 : Value), [((r, s) : Rg)]), ((.slice (some ⟨b, off + l.length * 2, none⟩) 0 (c - l.length) : Value), l.drop l.length)] = withL l (p, m) by
              rw [HW.out, HMM.out]; simp [catL])
            have hcl := with_len l (p, m)
            rw [← HCAT.out] at hcl
            have hcl0 : 0 < (catL [((.slice (some ⟨b, off, none⟩) l.length c : Value), l.take l.length), ((.slice (some ⟨w8.heap.size, 0, none⟩) 1 1 : Value), [((r, s) : Rg)]), ((.slice (some ⟨b, off + l.length * 2, none⟩) 0 (c - l.length) : Value), l.drop l.length)]).length := by simp [catL]; try omega
            have HCL := Lib.hid (And.intro hcl0 hcl)
            clear hcl0 hcl
            go_wp2_with fail
            go_region_held3 (fun w' => w'.cell? ⟨w.heap.size, 0, none⟩ = some (.int .i64 r) ∧ w'.cell? ⟨w.heap.size, 1, none⟩ = some (.int .i64 s) ∧ w8.grownBy w' none) ((refine ⟨by first | assumption | exact (World.grownBy_alloc _ _ none).cell (by assumption) (by simp) | exact (World.grownBy_alloc _ _ none).cell ((World.grownBy_alloc _ _ none).cell (by assumption) (by simp)) (by simp) | (simp [*]; done), by first | assumption | exact (World.grownBy_alloc _ _ none).cell (by assumption) (by simp) | exact (World.grownBy_alloc _ _ none).cell ((World.grownBy_alloc _ _ none).cell (by assumption) (by simp)) (by simp) | (simp [*]; done), by first | assumption | exact grownBy_drew | exact grownBy_trans (World.grownBy_alloc _ _ _) grownBy_drew | exact grownBy_trans (World.grownBy_alloc _ _ _) (grownBy_trans (World.grownBy_alloc _ _ _) grownBy_drew) | exact grownBy_trans (World.grownBy_alloc _ _ _) (World.grownBy_alloc _ _ _) | exact World.grownBy_alloc _ _ _⟩))
              (first | (go_at_call 50; have gW : w8.grownBy ((w8.alloc (.cells #[.int .i64 r, .int .i64 s] 40)).alloc (.cells #[.slice (some ⟨b, off, none⟩) l.length c, .slice (some ⟨w8.heap.size, 0, none⟩) 1 1, .slice (some ⟨b, off + l.length * 2, none⟩) 0 (c - l.length)] 54)).drew none := grownBy_trans (World.grownBy_alloc _ _ _) (grownBy_trans (World.grownBy_alloc _ _ _) grownBy_drew); refine (concat_any (w8.heap.size + 1) 3 [((.slice (some ⟨b, off, none⟩) l.length c : Value), l.take l.length), ((.slice (some ⟨w8.heap.size, 0, none⟩) 1 1 : Value), [((r, s) : Rg)]), ((.slice (some ⟨b, off + l.length * 2, none⟩) 0 (c - l.length) : Value), l.drop l.length)] _ (three_sl (by go_simp) (by go_simp) (by go_simp) (sl_take (H.out.1.kept (grownBy_trans HR3.out.1 gW)) hkl) (sl_one (by go_simp) (by go_simp)) (sl_end _ _ _ _)) (by simp) HCL.out.1 (by have := HCL.out.2; omega)).mono ?_; rintro e w9 ⟨v9, rfl, hg, ho⟩; have q0 := hg.cell (gW.cell a0 (by simp)) (by simp); have q1 := hg.cell (gW.cell a1 (by simp)) (by simp); have q2 := grownBy_trans gW hg; have HOW := Lib.hid (own_base ho (grownBy_trans HR3.out.1 gW).size)))
            go_wp2_with fail
            go_ret
            refine ⟨_, rfl, grownBy_trans HR3.out.1 (by assumption), ?_⟩
            rw [← HCAT.out]
            exact HOW.out

theorem sl_nil (W : World) : SlAt W (.slice none 0 0) [] := .inl ⟨rfl, rfl⟩

set_option maxRecDepth 100000 in
set_option maxHeartbeats 8000000 in
theorem with_nil (p : Int) (m : Int) (w : World) : Calls Try.prog 41 #[.slice none 0 0, .agg #[.int .i64 p, .int .i64 m]] w (CcPost w (withL [] (p, m))) := by
  have HT := Lib.hid (two_new w (.int .i64 p) (.int .i64 m) 40)
  have HG := Lib.hid (World.grownBy_alloc w (.cells #[.int .i64 p, .int .i64 m] 40) none)
  go_enter Try.func41, Try.ntmps41
  go_wp2_with fail
  refine wp_loop_rounds 1 ?_
  rw [rounds_succ]
  go_wp2_with fail
  go_quiet (fail)
  have H1 := Lib.hid (And.intro (grownBy_trans HG.out (grownBy_drewN (r := none) nq)) (HT.out.kept (grownBy_drewN (r := none) nq) (by simp)))
  generalize (w.alloc (.cells #[.int .i64 p, .int .i64 m] 40)).drewN nq = w3 at *
  go_wp2_with fail
  refine wp_loop_rounds 1 ?_
  rw [rounds_succ]
  go_wp2_with fail
  go_quiet (fail)
  have HR3 := Lib.hid (And.intro (grownBy_trans H1.out.1 (grownBy_drewN (r := none) nq)) (H1.out.2.kept (grownBy_drewN (r := none) nq) (by simp)))
  generalize w3.drewN nq = w8 at *
  obtain ⟨a0, a1, a2, a3⟩ := HR3.out.2
  obtain ⟨b0, b1, b2, b3⟩ := HR3.out.2.kept (grownBy_drew (r := none)) (by simp)
  have g0 : w8.grownBy w8.drew none := grownBy_drew
  have HCAT := Lib.hid (show catL [((.slice none 0 0 : Value), ([] : List Rg)), ((.slice (some ⟨w8.heap.size, 0, none⟩) 1 1 : Value), [((p, m) : Rg)]), ((.slice none 0 0 : Value), ([] : List Rg))] = withL [] (p, m) by simp [catL, withL])
  go_wp2_with fail
  go_region_held3 (fun w' => w'.cell? ⟨w.heap.size, 0, none⟩ = some (.int .i64 p) ∧ w'.cell? ⟨w.heap.size, 1, none⟩ = some (.int .i64 m) ∧ w8.grownBy w' none) ((refine ⟨by first | assumption | exact (World.grownBy_alloc _ _ none).cell (by assumption) (by simp) | exact (World.grownBy_alloc _ _ none).cell ((World.grownBy_alloc _ _ none).cell (by assumption) (by simp)) (by simp) | (simp [*]; done), by first | assumption | exact (World.grownBy_alloc _ _ none).cell (by assumption) (by simp) | exact (World.grownBy_alloc _ _ none).cell ((World.grownBy_alloc _ _ none).cell (by assumption) (by simp)) (by simp) | (simp [*]; done), by first | assumption | exact grownBy_drew | exact grownBy_trans (World.grownBy_alloc _ _ _) grownBy_drew | exact grownBy_trans (World.grownBy_alloc _ _ _) (grownBy_trans (World.grownBy_alloc _ _ _) grownBy_drew) | exact grownBy_trans (World.grownBy_alloc _ _ _) (World.grownBy_alloc _ _ _) | exact World.grownBy_alloc _ _ _⟩))
    (first | (go_at_call 50; have gW : w8.grownBy ((w8.alloc (.cells #[.int .i64 p, .int .i64 m] 40)).alloc (.cells #[.slice none 0 0, .slice (some ⟨w8.heap.size, 0, none⟩) 1 1, .slice none 0 0] 54)).drew none := grownBy_trans (World.grownBy_alloc _ _ _) (grownBy_trans (World.grownBy_alloc _ _ _) grownBy_drew); refine (concat_any (w8.heap.size + 1) 3 [((.slice none 0 0 : Value), ([] : List Rg)), ((.slice (some ⟨w8.heap.size, 0, none⟩) 1 1 : Value), [((p, m) : Rg)]), ((.slice none 0 0 : Value), ([] : List Rg))] _ (three_sl (by go_simp) (by go_simp) (by go_simp) (sl_nil _) (sl_one (by go_simp) (by go_simp)) (sl_nil _)) (by simp) (by simp [catL]) (by simp [catL])).mono ?_; rintro e w9 ⟨v9, rfl, hg, ho⟩; have q0 := hg.cell (gW.cell a0 (by simp)) (by simp); have q1 := hg.cell (gW.cell a1 (by simp)) (by simp); have q2 := grownBy_trans gW hg; have HOW := Lib.hid (own_base ho (grownBy_trans HR3.out.1 gW).size)))
  go_wp2_with fail
  go_ret
  refine ⟨_, rfl, grownBy_trans HR3.out.1 (by assumption), ?_⟩
  rw [← HCAT.out]
  exact HOW.out

end Go.Proofs.Ytedgfiagefhahaa
