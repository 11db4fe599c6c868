/- Bd BdS -/
import Derived.Test.YtedhemllgpbheaaQ3
import Derived.BigQuiet
import Derived.Deep.QuietTactic
namespace Go.Proofs.Ytedhemllgpbheaa
open Go.RowKit

abbrev bdV (u n : Int) (a : Option Addr) (m c : Nat) : Value := .agg #[.int .i64 u, .int .i64 n, .slice a m c]
def rg1 (u n : Int) (x : Rg) : Prop := u < x.1 ∧ x.1 < x.2 ∧ x.2 ≤ n
instance (u n : Int) (x : Rg) : Decidable (rg1 u n x) := by unfold rg1; infer_instance
def RApart (l : List Rg) : Prop := ∀ i (h : i + 1 < l.length), (l[i]'(by omega)).2 < (l[i + 1]'h).1
def RApTo (l : List Rg) (j : Nat) : Prop := ∀ i (h : i + 1 < l.length), i + 1 < j → (l[i]'(by omega)).2 < (l[i + 1]'h).1
def bdP (u n : Int) (l : List Rg) : Prop := 0 ≤ u ∧ u ≤ n ∧ n ≤ 1000000000 ∧ l.length ≤ 40 ∧ (∀ x ∈ l, rg1 u n x) ∧ RApart l
noncomputable def bdOk (u n : Int) (l : List Rg) : Bool := @decide (bdP u n l) (Classical.propDecidable _)
theorem bd_yes {u n : Int} {l : List Rg} (h : bdP u n l) : bdOk u n l = true := by simpa [bdOk] using h
theorem bd_no {u n : Int} {l : List Rg} (h : ¬ bdP u n l) : bdOk u n l = false := by simpa [bdOk] using h
theorem bd_of {u n : Int} {l : List Rg} (h : bdOk u n l = true) : bdP u n l := by simpa [bdOk] using h
theorem bd_not {u n : Int} {l : List Rg} (h : bdOk u n l = false) : ¬ bdP u n l := by simpa [bdOk] using h

def bdCells (B : Nat) (x y z : Value) : List (Addr × Value) := [(⟨B, 0, none⟩, x), (⟨B, 1, none⟩, y), (⟨B, 2, none⟩, z)]
theorem bd_new (w : World) (x y z : Value) (T : TypeId) : Mine w (bdCells w.heap.size x y z) (w.alloc (.cells #[x, y, z] T)) := by
  refine ⟨World.grownBy_alloc _ _ _, ?_⟩
  intro c hc
  simp only [bdCells, List.mem_cons, List.not_mem_nil, or_false] at hc
  rcases hc with rfl | rfl | rfl <;> exact ⟨by go_simp, by go_simp, by simp, rfl⟩
theorem bd_facts {w w' : World} {B : Nat} {x y z : Value} (hm : Mine w (bdCells B x y z) w') : w'.cell? ⟨B, 0, none⟩ = some x ∧ w'.cell? ⟨B, 1, none⟩ = some y ∧ w'.cell? ⟨B, 2, none⟩ = some z :=
  ⟨hm.cell _ _ (by simp [bdCells]), hm.cell _ _ (by simp [bdCells]), hm.cell _ _ (by simp [bdCells])⟩
theorem bd_frees {w w' : World} {B : Nat} {x y z : Value} (hm : Mine w (bdCells B x y z) w') : w'.frozen? ⟨B, 0, none⟩ = false ∧ w'.frozen? ⟨B, 1, none⟩ = false ∧ w'.frozen? ⟨B, 2, none⟩ = false :=
  ⟨hm.free ⟨B, 0, none⟩ x (by simp [bdCells]), hm.free ⟨B, 1, none⟩ y (by simp [bdCells]), hm.free ⟨B, 2, none⟩ z (by simp [bdCells])⟩

end Go.Proofs.Ytedhemllgpbheaa

namespace Go.Proofs.Ytedhemllgpbheaa
open Go.RowKit

def BsRel (w : World) (u n : Int) (a : Option Addr) (c : Nat) (l : List Rg) (i : Value) (wr : World) : Prop :=
  ∃ j : Nat, j ≤ l.length ∧ i = .int .i64 j ∧ Mine w (bdCells w.heap.size (.int .i64 u) (.int .i64 n) (.slice a l.length c)) wr ∧ (∀ x ∈ l.take j, rg1 u n x) ∧ RApTo l j

set_option maxRecDepth 100000 in
set_option maxHeartbeats 20000000 in
theorem bd_ok_spec (u n : Int) (a : Option Addr) (c : Nat) (l : List Rg) (w : World) (h : RgAt w a l) (hl : l.length ≤ 9223372036854775807) : Calls Try.prog 33 #[bdV u n a l.length c] w fun e w' => e = .returned (.bool (bdOk u n l)) ∧ w.grownBy w' none := by
  have H := Lib.hid h
  clear h
  cases h1 : inB u 0 1000000000
  · have H1 := Lib.hid h1
    have HN := Lib.hid (show ¬ bdP u n l from fun hp => in_not h1 ⟨hp.1, Int.le_trans hp.2.1 hp.2.2.1⟩)
    clear h1
    go_enter Try.func33, Try.ntmps33
    go_wp2_with (go_at_call 21; refine (in_any _ _ _ _).mono ?_; rintro e w' ⟨rfl, rfl⟩; first | rw [H1.out])
    go_ret
    exact ⟨ret_b (bd_no HN.out).symm, World.grownBy_alloc _ _ _⟩
  · have g1 := in_of h1
    have H1 := Lib.hid h1
    clear h1
    cases h2 : inB n u 1000000000
    · have H2 := Lib.hid h2
      have HN := Lib.hid (show ¬ bdP u n l from fun hp => in_not h2 ⟨hp.2.1, hp.2.2.1⟩)
      clear h2
      go_enter Try.func33, Try.ntmps33
      go_wp2_with (go_at_call 21; refine (in_any _ _ _ _).mono ?_; rintro e w' ⟨rfl, rfl⟩; first | rw [H1.out] | rw [H2.out])
      go_ret
      exact ⟨ret_b (bd_no HN.out).symm, World.grownBy_alloc _ _ _⟩
    · have g2 := in_of h2
      have H2 := Lib.hid h2
      clear h2
      by_cases h4 : 40 < (l.length : Int)
      · have HN := Lib.hid (show ¬ bdP u n l from fun hp => by have := hp.2.2.2.1; omega)
        go_enter Try.func33, Try.ntmps33
        go_wp2_with (go_at_call 21; refine (in_any _ _ _ _).mono ?_; rintro e w' ⟨rfl, rfl⟩; first | rw [H1.out] | rw [H2.out])
        go_ret
        exact ⟨ret_b (bd_no HN.out).symm, World.grownBy_alloc _ _ _⟩
      · have HM := Lib.hid (bd_new w (.int .i64 u) (.int .i64 n) (.slice a l.length c) 50)
        go_enter Try.func33, Try.ntmps33
        go_wp2_with (go_at_call 21; refine (in_any _ _ _ _).mono ?_; rintro e w' ⟨rfl, rfl⟩; first | rw [H1.out] | rw [H2.out])
        go_loopw [3] (fun i wr => BsRel w u n a c l i wr) (fun i _ => l.length - (intOf i).toNat)
        case atStart => exact ⟨0, Nat.zero_le _, rfl, HM.out, by simp, fun i h h2 => absurd h2 (by omega)⟩
        case round =>
          obtain ⟨j, hj, hi, hm, hall, hap⟩ := hrel
          have HS := Lib.hid (And.intro hm (And.intro hall hap))
          clear hm hall hap HM
          obtain ⟨b0, b1, b2⟩ := bd_facts HS.out.1
          have hB : w.heap.size < wr.heap.size := cell_in b0
          by_cases hlt : j < l.length
          · rcases (H.out.kept HS.out.1.grown) with h0 | ⟨b, off, rfl, hb, hc⟩
            · rw [h0] at hlt
              simp at hlt
            · obtain ⟨c0, c1⟩ := hc j hlt
              have HC := Lib.hid hc
              clear hc
              have HX := Lib.hid (fun hx => all_next (P := rg1 u n) l j hlt HS.out.2.1 hx)
              have HY := Lib.hid (show ¬ rg1 u n l[j] → ¬ bdP u n l from fun hn hp => hn (hp.2.2.2.2.1 _ (List.getElem_mem hlt)))
              have HZ := Lib.hid (show ∀ k, j = k + 1 → ∃ x : Rg, wr.cell? ⟨b, off + k * 2, none⟩ = some (.int .i64 x.1) ∧ wr.cell? ⟨b, off + k * 2 + 1, none⟩ = some (.int .i64 x.2) ∧ (x.2 < l[j].1 → RApTo l (j + 1)) ∧ (¬ x.2 < l[j].1 → ¬ bdP u n l) from fun k hk => by
                subst hk
                have hk2 : k < l.length := by omega
                obtain ⟨d0, d1⟩ := HC.out k hk2
                refine ⟨l[k], d0, d1, fun hh i h h2 => ?_, fun hh hp => hh (hp.2.2.2.2.2 k hlt)⟩
                by_cases e : i = k
                · subst e; exact hh
                · exact HS.out.2.2 i h (by omega))
              have HZ0 := Lib.hid (show j = 0 → RApTo l (j + 1) from fun e i h h2 => by omega)
              have HG := Lib.hid (grownBy_trans HS.out.1.grown (World.grownBy_alloc wr (.cells #[.int .i64 (l[j]).1, .int .i64 (l[j]).2] 44) none))
              by_cases hj0 : j = 0
              · have HZ1 := Lib.hid (HZ0.out hj0)
                subst hj0
                have hi2 : _ = Value.int .i64 0 := hi
                clear hi
                subst hi2
                simp only [Nat.zero_mul, Nat.add_zero] at c0 c1
                have hlt' : (0 : Int) < (l.length : Int) := by omega
                generalize l[0] = x at *
                obtain ⟨f, t⟩ := x
                dsimp only at c0 c1 HG
                by_cases ha : f ≤ u
                · have ha2 : decide (f ≤ u) = true := decide_eq_true ha
                  have HN := Lib.hid (show ¬ bdP u n l from HY.out fun hh => by have := hh.1; simp only at this; omega)
                  go_wp2_with fail
                  go_quiet (fail)
                  go_wp2_with fail
                  go_ret
                  exact ⟨ret_b (bd_no HN.out).symm, grownBy_trans HG.out (grownBy_drewN _)⟩
                · have ha2 : decide (f ≤ u) = false := decide_eq_false ha
                  by_cases hb' : t ≤ f
                  · have hb2 : decide (t ≤ f) = true := decide_eq_true hb'
                    have HN := Lib.hid (show ¬ bdP u n l from HY.out fun hh => by have := hh.2.1; simp only at this; omega)
                    go_wp2_with fail
                    go_quiet (fail)
                    go_wp2_with fail
                    go_ret
                    exact ⟨ret_b (bd_no HN.out).symm, grownBy_trans HG.out (grownBy_drewN _)⟩
                  · have hb2 : decide (t ≤ f) = false := decide_eq_false hb'
                    by_cases hc' : n < t
                    · have hc2 : decide (n < t) = true := decide_eq_true hc'
                      have HN := Lib.hid (show ¬ bdP u n l from HY.out fun hh => by have := hh.2.2; simp only at this; omega)
                      go_wp2_with fail
                      go_quiet (fail)
                      go_wp2_with fail
                      go_ret
                      exact ⟨ret_b (bd_no HN.out).symm, grownBy_trans HG.out (grownBy_drewN _)⟩
                    · have hc2 : decide (n < t) = false := decide_eq_false hc'
                      have HO := Lib.hid (HX.out ⟨by show u < f; omega, by show f < t; omega, by show t ≤ n; omega⟩)
                      have HA := Lib.hid (show RApTo l (0 + 1) from HZ1.out)
                      go_wp2_with fail
                      go_quiet (fail)
                      go_wp2_with fail
                      go_roundw
                      case rel => exact ⟨1, hlt, by first | rfl | go_num, HS.out.1.kept (grownBy_trans (World.grownBy_alloc _ _ _) (grownBy_drewN _)), HO.out, HA.out⟩
                      case measure => simp [intOf]; omega
              · obtain ⟨k, rfl⟩ : ∃ k, j = k + 1 := ⟨j - 1, by omega⟩
                have hi2 : _ = Value.int .i64 ((k : Int) + 1) := hi
                clear hi
                subst hi2
                clear hj0
                have hk0 : (0 : Int) ≤ (k : Int) := by omega
                have hk1 : (0 : Int) < (k : Int) + 1 := by omega
                have hk2 : (0 : Int) ≤ (k : Int) + 1 := by omega
                have hk3 : (k : Int) < (l.length : Int) := by omega
                have hk4 : k < l.length := by omega
                have hk5 : IntKind.i64.wrap (k : Int) = k := IntWalk.i64_in _ (by omega)
                have hk6 : IntKind.i64.wrap ((k : Int) + 1 - 1) = k := by rw [IntWalk.i64_in _ (by omega)]; omega
                have hk8 : ((k : Int) + 1).toNat = k + 1 := by omega
                have hlt2 : (k : Int) + 1 < (l.length : Int) := by omega
                generalize l[k + 1] = x at *
                obtain ⟨f, t⟩ := x
                dsimp only at c0 c1 HG
                by_cases ha : f ≤ u
                · have ha2 : decide (f ≤ u) = true := decide_eq_true ha
                  have HN := Lib.hid (show ¬ bdP u n l from HY.out fun hh => by have := hh.1; simp only at this; omega)
                  go_wp2_with fail
                  go_quiet (fail)
                  go_wp2_with fail
                  go_ret
                  exact ⟨ret_b (bd_no HN.out).symm, grownBy_trans HG.out (grownBy_drewN _)⟩
                · have ha2 : decide (f ≤ u) = false := decide_eq_false ha
                  by_cases hb' : t ≤ f
                  · have hb2 : decide (t ≤ f) = true := decide_eq_true hb'
                    have HN := Lib.hid (show ¬ bdP u n l from HY.out fun hh => by have := hh.2.1; simp only at this; omega)
                    go_wp2_with fail
                    go_quiet (fail)
                    go_wp2_with fail
                    go_ret
                    exact ⟨ret_b (bd_no HN.out).symm, grownBy_trans HG.out (grownBy_drewN _)⟩
                  · have hb2 : decide (t ≤ f) = false := decide_eq_false hb'
                    by_cases hc' : n < t
                    · have hc2 : decide (n < t) = true := decide_eq_true hc'
                      have HN := Lib.hid (show ¬ bdP u n l from HY.out fun hh => by have := hh.2.2; simp only at this; omega)
                      go_wp2_with fail
                      go_quiet (fail)
                      go_wp2_with fail
                      go_ret
                      exact ⟨ret_b (bd_no HN.out).symm, grownBy_trans HG.out (grownBy_drewN _)⟩
                    · have hc2 : decide (n < t) = false := decide_eq_false hc'
                      have HO := Lib.hid (HX.out ⟨by show u < f; omega, by show f < t; omega, by show t ≤ n; omega⟩)
                      obtain ⟨x, d0, d1, hy, hn⟩ := HZ.out k rfl
                      have HYN := Lib.hid (And.intro hy hn)
                      clear hy hn
                      obtain ⟨f2, t2⟩ := x
                      dsimp only at d0 d1 HYN
                      by_cases hgp : t2 < f
                      · have hgp' : ¬ f ≤ t2 := by omega
                        have hgp2 : decide (f ≤ t2) = false := decide_eq_false hgp'
                        have HA := Lib.hid (show RApTo l (k + 1 + 1) from HYN.out.1 hgp)
                        go_wp2_with fail
                        go_quiet (fail)
                        go_wp2_with fail
                        go_roundw
                        case rel => exact ⟨k + 1 + 1, hlt, by go_num, HS.out.1.kept (grownBy_trans (World.grownBy_alloc _ _ _) (grownBy_drewN _)), HO.out, HA.out⟩
                        case measure => simp [intOf]; omega
                      · have hgp' : f ≤ t2 := by omega
                        have hgp2 : decide (f ≤ t2) = true := decide_eq_true hgp'
                        have HN := Lib.hid (show ¬ bdP u n l from HYN.out.2 hgp)
                        go_wp2_with fail
                        go_quiet (fail)
                        go_wp2_with fail
                        go_ret
                        exact ⟨ret_b (bd_no HN.out).symm, grownBy_trans HG.out (grownBy_drewN _)⟩
          · obtain rfl : j = l.length := by omega
            subst hi
            have HA := Lib.hid (show ∀ x ∈ l, rg1 u n x from fun x hx => HS.out.2.1 x (by rw [List.take_length]; exact hx))
            have HB := Lib.hid (show RApart l from fun i h => HS.out.2.2 i h (by omega))
            go_wp2_with fail
            go_ret
            exact ⟨ret_b (bd_yes ⟨by omega, by omega, by omega, by omega, HA.out, HB.out⟩).symm, HS.out.1.grown⟩

end Go.Proofs.Ytedhemllgpbheaa

