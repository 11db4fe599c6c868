/- One piece of two that touch or overlap: the program's. -/
import Derived.Test.YtaigdimicnlfdaaPcHol
namespace Go.Proofs.Ytaigdimicnlfdaa
open Go.RowKit

def OvPost (w : World) (p x : Pk) (e : Ending) (w' : World) : Prop :=
  e = .returned (.agg #[.int .i64 (overP p x).1, .string ⟨(overP p x).2.toArray⟩]) ∧ w.grownBy w' none

set_option maxRecDepth 100000 in
set_option maxHeartbeats 8000000 in
theorem over_any (p x : Int) (m n : List UInt8) (w : World) (hp0 : 0 ≤ p) (hp1 : p ≤ 20000) (hx0 : 0 ≤ x) (hx1 : x ≤ 20000) (hm : m.length ≤ 20000) (hn : n.length ≤ 20000) (h0 : p ≤ x + (n.length : Int)) (h1 : x ≤ p + (m.length : Int)) :
    Calls Try.prog 54 #[.agg #[.int .i64 p, .string ⟨m.toArray⟩], .agg #[.int .i64 x, .string ⟨n.toArray⟩]] w (OvPost w (p, m) (x, n)) := by
  by_cases hA : 0 < p - x
  · by_cases hB : 0 < x + (n.length : Int) - (p + (m.length : Int))
    · obtain ⟨A, hA1⟩ : ∃ A : Nat, p - x = (A : Int) := ⟨(p - x).toNat, by omega⟩
      have hA2 : (0 : Int) < (A : Int) := by omega
      have hw1 : IntKind.i64.wrap (p - x) = (A : Int) := by rw [IntWalk.i64_in _ (by omega), hA1]
      have hmn : x < p := by omega
      have hA5 : 0 < A := by omega
      have HO1 := Lib.hid (show (overP (p, m) (x, n)).1 = x from Int.min_eq_right (by omega))
      obtain ⟨B, hB1⟩ : ∃ B : Nat, x + (n.length : Int) - (p + (m.length : Int)) = (B : Int) := ⟨(x + (n.length : Int) - (p + (m.length : Int))).toNat, by omega⟩
      have hB2 : (0 : Int) < (B : Int) := by omega
      have hB5 : 0 < B := by omega
      have hw2 : IntKind.i64.wrap (x + (n.length : Int) - (p + (m.length : Int))) = (B : Int) := by rw [IntWalk.i64_in _ (by omega), hB1]
      have hAn : A ≤ n.length := by omega
      have hBn : B ≤ n.length := by omega
      have HO2 := Lib.hid (show (overP (p, m) (x, n)).2 = n.take A ++ m ++ n.drop (n.length - B) by
        simp only [overP]
        rw [show (max 0 (p - x)).toNat = A by omega, show (max 0 (x + (n.length : Int) - (p + (m.length : Int)))).toNat = B by omega])
      obtain ⟨C, hC⟩ : ∃ C : Nat, n.length - B = C := ⟨_, rfl⟩
      have hw3 : IntKind.i64.wrap ((n.length : Int) - (B : Int)) = (C : Int) := by rw [IntWalk.i64_in _ (by omega)]; omega
      have hCn : (C : Int) ≤ (n.length : Int) := by omega
      have hC0 : (0 : Int) ≤ (C : Int) := by omega
      have hAn2 : (A : Int) ≤ (n.length : Int) := by omega
      have hA0 : (0 : Int) ≤ (A : Int) := by omega
      have e1 := ext_l n 0 A
      have e2 := ext_l n C n.length
      simp only [List.drop_zero] at e1
      rw [List.take_length] at e2
      have HE := Lib.hid (And.intro e1 e2)
      rw [hC] at HO2
      have HC := Lib.hid (And.intro hC (And.intro hA1 hB1))
      have l1 : (n.take A).length = A := by rw [List.length_take]; omega
      have l2 : (n.drop C).length = n.length - C := List.length_drop ..
      clear e1 e2 hC hA1 hB1 hA hB
      go_enter Try.func54, Try.ntmps54
      go_wp2_with fail
      have z0 : (((w.alloc (.cells #[.int .i64 p, .string ⟨m.toArray⟩] 57)).alloc (.cells #[.int .i64 x, .string ⟨n.toArray⟩] 57)).alloc (.cells #[.int .i64 0, .string ⟨#[]⟩] 57)).drew.cell? ⟨w.heap.size, 0, none⟩ = some (.int .i64 p) := by go_simp
      have z1 : (((w.alloc (.cells #[.int .i64 p, .string ⟨m.toArray⟩] 57)).alloc (.cells #[.int .i64 x, .string ⟨n.toArray⟩] 57)).alloc (.cells #[.int .i64 0, .string ⟨#[]⟩] 57)).drew.cell? ⟨w.heap.size, 1, none⟩ = some (.string ⟨m.toArray⟩) := by go_simp
      have z2 : (((w.alloc (.cells #[.int .i64 p, .string ⟨m.toArray⟩] 57)).alloc (.cells #[.int .i64 x, .string ⟨n.toArray⟩] 57)).alloc (.cells #[.int .i64 0, .string ⟨#[]⟩] 57)).drew.cell? ⟨w.heap.size + 1, 0, none⟩ = some (.int .i64 x) := by go_simp
      have z3 : (((w.alloc (.cells #[.int .i64 p, .string ⟨m.toArray⟩] 57)).alloc (.cells #[.int .i64 x, .string ⟨n.toArray⟩] 57)).alloc (.cells #[.int .i64 0, .string ⟨#[]⟩] 57)).drew.cell? ⟨w.heap.size + 1, 1, none⟩ = some (.string ⟨n.toArray⟩) := by go_simp
      have HT := Lib.hid (show Two (((w.alloc (.cells #[.int .i64 p, .string ⟨m.toArray⟩] 57)).alloc (.cells #[.int .i64 x, .string ⟨n.toArray⟩] 57)).alloc (.cells #[.int .i64 0, .string ⟨#[]⟩] 57)).drew (w.heap.size + 1 + 1) (.int .i64 0) (.string ⟨#[]⟩) from ⟨by go_simp, by go_simp, by go_simp, by go_simp⟩)
      have HG := Lib.hid (show w.grownBy (((w.alloc (.cells #[.int .i64 p, .string ⟨m.toArray⟩] 57)).alloc (.cells #[.int .i64 x, .string ⟨n.toArray⟩] 57)).alloc (.cells #[.int .i64 0, .string ⟨#[]⟩] 57)).drew none from grownBy_trans (World.grownBy_alloc _ _ _) (grownBy_trans (World.grownBy_alloc _ _ _) (grownBy_trans (World.grownBy_alloc _ _ _) grownBy_drew)))
      generalize (((w.alloc (.cells #[.int .i64 p, .string ⟨m.toArray⟩] 57)).alloc (.cells #[.int .i64 x, .string ⟨n.toArray⟩] 57)).alloc (.cells #[.int .i64 0, .string ⟨#[]⟩] 57)) = w2 at *
      have z4 : w2.drew.grownBy w2.drew none := World.grownBy.refl _ _
      go_region_held3 (fun w' => w'.cell? ⟨w.heap.size, 0, none⟩ = some (.int .i64 p) ∧ w'.cell? ⟨w.heap.size, 1, none⟩ = some (.string ⟨m.toArray⟩) ∧ w'.cell? ⟨w.heap.size + 1, 0, none⟩ = some (.int .i64 x) ∧ w'.cell? ⟨w.heap.size + 1, 1, none⟩ = some (.string ⟨n.toArray⟩) ∧ w2.drew.grownBy w' none) ((refine ⟨by first | assumption | (simp [*]; done), by first | assumption | (simp [*]; done), by first | assumption | (simp [*]; done), by first | assumption | (simp [*]; done), by assumption⟩))
        (first | (go_at_call 55; refine (start_any _ _ _).mono ?_; rintro e w8 ⟨rfl, hg⟩; have q0 := hg.cell (a := ⟨w.heap.size, 0, none⟩) (v := .int .i64 p) (by first | assumption | (simp [*]; done)) (by simp); have q1 := hg.cell (a := ⟨w.heap.size, 1, none⟩) (v := .string ⟨m.toArray⟩) (by first | assumption | (simp [*]; done)) (by simp); have q2 := hg.cell (a := ⟨w.heap.size + 1, 0, none⟩) (v := .int .i64 x) (by first | assumption | (simp [*]; done)) (by simp); have q3 := hg.cell (a := ⟨w.heap.size + 1, 1, none⟩) (v := .string ⟨n.toArray⟩) (by first | assumption | (simp [*]; done)) (by simp); have q4 := grownBy_trans (a := w2.drew) (by assumption) hg))
      rename_i hH
      obtain ⟨y0, y1, y2, y3, y4⟩ := hH
      have HR := Lib.hid y4
      clear z0 z1 z2 z3 z4
      try rw [if_pos hA5]
      go_wp2_with fail
      have z0 := (grownBy_drew (r := none)).cell y0 (by simp)
      have z1 := (grownBy_drew (r := none)).cell y1 (by simp)
      have z2 := (grownBy_drew (r := none)).cell y2 (by simp)
      have z3 := (grownBy_drew (r := none)).cell y3 (by simp)
      have z4 := grownBy_trans HR.out (grownBy_drew (r := none))
      go_region_held3 (fun w' => w'.cell? ⟨w.heap.size, 0, none⟩ = some (.int .i64 p) ∧ w'.cell? ⟨w.heap.size, 1, none⟩ = some (.string ⟨m.toArray⟩) ∧ w'.cell? ⟨w.heap.size + 1, 0, none⟩ = some (.int .i64 x) ∧ w'.cell? ⟨w.heap.size + 1, 1, none⟩ = some (.string ⟨n.toArray⟩) ∧ w2.drew.grownBy w' none) ((refine ⟨by first | assumption | (simp [*]; done), by first | assumption | (simp [*]; done), by first | assumption | (simp [*]; done), by first | assumption | (simp [*]; done), by assumption⟩))
        (first
          | (go_at_call 29; refine (end_any p m _ hp0 (by omega) (by omega)).mono ?_; rintro e w8 ⟨rfl, hg⟩; have q0 := hg.cell (a := ⟨w.heap.size, 0, none⟩) (v := .int .i64 p) (by first | assumption | (simp [*]; done)) (by simp); have q1 := hg.cell (a := ⟨w.heap.size, 1, none⟩) (v := .string ⟨m.toArray⟩) (by first | assumption | (simp [*]; done)) (by simp); have q2 := hg.cell (a := ⟨w.heap.size + 1, 0, none⟩) (v := .int .i64 x) (by first | assumption | (simp [*]; done)) (by simp); have q3 := hg.cell (a := ⟨w.heap.size + 1, 1, none⟩) (v := .string ⟨n.toArray⟩) (by first | assumption | (simp [*]; done)) (by simp); have q4 := grownBy_trans (a := w2.drew) (by assumption) hg)
          | (go_at_call 29; refine (end_any x n _ hx0 (by omega) (by omega)).mono ?_; rintro e w8 ⟨rfl, hg⟩; have q0 := hg.cell (a := ⟨w.heap.size, 0, none⟩) (v := .int .i64 p) (by first | assumption | (simp [*]; done)) (by simp); have q1 := hg.cell (a := ⟨w.heap.size, 1, none⟩) (v := .string ⟨m.toArray⟩) (by first | assumption | (simp [*]; done)) (by simp); have q2 := hg.cell (a := ⟨w.heap.size + 1, 0, none⟩) (v := .int .i64 x) (by first | assumption | (simp [*]; done)) (by simp); have q3 := hg.cell (a := ⟨w.heap.size + 1, 1, none⟩) (v := .string ⟨n.toArray⟩) (by first | assumption | (simp [*]; done)) (by simp); have q4 := grownBy_trans (a := w2.drew) (by assumption) hg))
      rename_i hH
      obtain ⟨x0, x1, x2, x3, x4⟩ := hH
      have HR2 := Lib.hid (And.intro (grownBy_trans HG.out x4) (HT.out.kept x4 (by simp)))
      clear z0 z1 z2 z3 z4 y0 y1 y2 y3 y4
      try rw [if_pos hB5]
      go_wp2_with fail
      go_quiet (fail)
      have hstr : (({ data := n.toArray } : ByteArray).extract 0 A ++ { data := m.toArray } ++ ({ data := n.toArray } : ByteArray).extract C n.length) = ⟨(overP (p, m) (x, n)).2.toArray⟩ := by
        rw [HE.out.1, HE.out.2, ba_append, ba_append, HO2.out]
      have v0 := (grownBy_drewN (r := none) nq).cell x0 (by simp)
      have v1 := (grownBy_drewN (r := none) nq).cell x1 (by simp)
      have v2 := (grownBy_drewN (r := none) nq).cell x2 (by simp)
      have v3 := (grownBy_drewN (r := none) nq).cell x3 (by simp)
      have HT3 := Lib.hid (HR2.out.2.kept (grownBy_drewN (r := none) nq) (by simp))
      have HG3 := Lib.hid (grownBy_trans HR2.out.1 (grownBy_drewN nq))
      obtain ⟨t0, t1, t2, t3⟩ := HT3.out
      rw [hstr]
      have HV := Lib.hid (show (overP (p, m) (x, n)).1 = x from HO1.out)
      generalize hOV : overP (p, m) (x, n) = ov at *
      obtain ⟨o1, o2⟩ := ov
      have HOV := Lib.hid hOV
      clear hOV
      have hV : o1 = x := HV.out
      clear x0 x1 x2 x3 x4 hstr
      generalize w8.drewN nq = w9 at *
      have hW : w9.grownBy ((w9.setCell ⟨w.heap.size + 1 + 1, 0, none⟩ (.int .i64 x)).setCell ⟨w.heap.size + 1 + 1, 1, none⟩ (.string ⟨o2.toArray⟩)) (some (w.heap.size + 1 + 1)) := grownBy_trans (grownBy_set _ _ _ _) (grownBy_set _ _ _ _)
      have HF := Lib.hid (grownBy_new HG3.out hW (by omega))
      clear hW
      go_wp2_with fail
      exact bodyPost_ret (v := .agg #[.int .i64 x, .string ⟨o2.toArray⟩]) (by simp [results, Try.results54, go_sem, t0, t1]) rfl ⟨by rw [HOV.out, hV], HF.out⟩
    · obtain ⟨A, hA1⟩ : ∃ A : Nat, p - x = (A : Int) := ⟨(p - x).toNat, by omega⟩
      have hA2 : (0 : Int) < (A : Int) := by omega
      have hw1 : IntKind.i64.wrap (p - x) = (A : Int) := by rw [IntWalk.i64_in _ (by omega), hA1]
      have hmn : x < p := by omega
      have hA5 : 0 < A := by omega
      have HO1 := Lib.hid (show (overP (p, m) (x, n)).1 = x from Int.min_eq_right (by omega))
      obtain ⟨D2, hB1⟩ : ∃ D2 : Int, x + (n.length : Int) - (p + (m.length : Int)) = D2 := ⟨_, rfl⟩
      obtain ⟨B, hB3⟩ : ∃ B : Nat, B = 0 := ⟨0, rfl⟩
      have hB2 : ¬ (0 : Int) < D2 := by omega
      have hB4 : D2 ≤ 0 := by omega
      have hw2 : IntKind.i64.wrap (x + (n.length : Int) - (p + (m.length : Int))) = D2 := by rw [IntWalk.i64_in _ (by omega), hB1]
      have hAn : A ≤ n.length := by omega
      have hBn : B ≤ n.length := by omega
      have HO2 := Lib.hid (show (overP (p, m) (x, n)).2 = n.take A ++ m ++ n.drop (n.length - B) by
        simp only [overP]
        rw [show (max 0 (p - x)).toNat = A by omega, show (max 0 (x + (n.length : Int) - (p + (m.length : Int)))).toNat = B by omega])
      obtain ⟨C, hC⟩ : ∃ C : Nat, n.length - B = C := ⟨_, rfl⟩
      have hw3 : IntKind.i64.wrap ((n.length : Int) - (B : Int)) = (C : Int) := by rw [IntWalk.i64_in _ (by omega)]; omega
      have hCn : (C : Int) ≤ (n.length : Int) := by omega
      have hC0 : (0 : Int) ≤ (C : Int) := by omega
      have hAn2 : (A : Int) ≤ (n.length : Int) := by omega
      have hA0 : (0 : Int) ≤ (A : Int) := by omega
      have e1 := ext_l n 0 A
      have e2 := ext_l n C n.length
      simp only [List.drop_zero] at e1
      rw [List.take_length] at e2
      have HE := Lib.hid (And.intro e1 e2)
      rw [hC] at HO2
      have HC := Lib.hid (And.intro hC (And.intro hA1 hB1))
      have l1 : (n.take A).length = A := by rw [List.length_take]; omega
      have l2 : (n.drop C).length = n.length - C := List.length_drop ..
      clear e1 e2 hC hA1 hB1 hA hB
      subst hB3
      go_enter Try.func54, Try.ntmps54
      go_wp2_with fail
      have z0 : (((w.alloc (.cells #[.int .i64 p, .string ⟨m.toArray⟩] 57)).alloc (.cells #[.int .i64 x, .string ⟨n.toArray⟩] 57)).alloc (.cells #[.int .i64 0, .string ⟨#[]⟩] 57)).drew.cell? ⟨w.heap.size, 0, none⟩ = some (.int .i64 p) := by go_simp
      have z1 : (((w.alloc (.cells #[.int .i64 p, .string ⟨m.toArray⟩] 57)).alloc (.cells #[.int .i64 x, .string ⟨n.toArray⟩] 57)).alloc (.cells #[.int .i64 0, .string ⟨#[]⟩] 57)).drew.cell? ⟨w.heap.size, 1, none⟩ = some (.string ⟨m.toArray⟩) := by go_simp
      have z2 : (((w.alloc (.cells #[.int .i64 p, .string ⟨m.toArray⟩] 57)).alloc (.cells #[.int .i64 x, .string ⟨n.toArray⟩] 57)).alloc (.cells #[.int .i64 0, .string ⟨#[]⟩] 57)).drew.cell? ⟨w.heap.size + 1, 0, none⟩ = some (.int .i64 x) := by go_simp
      have z3 : (((w.alloc (.cells #[.int .i64 p, .string ⟨m.toArray⟩] 57)).alloc (.cells #[.int .i64 x, .string ⟨n.toArray⟩] 57)).alloc (.cells #[.int .i64 0, .string ⟨#[]⟩] 57)).drew.cell? ⟨w.heap.size + 1, 1, none⟩ = some (.string ⟨n.toArray⟩) := by go_simp
      have HT := Lib.hid (show Two (((w.alloc (.cells #[.int .i64 p, .string ⟨m.toArray⟩] 57)).alloc (.cells #[.int .i64 x, .string ⟨n.toArray⟩] 57)).alloc (.cells #[.int .i64 0, .string ⟨#[]⟩] 57)).drew (w.heap.size + 1 + 1) (.int .i64 0) (.string ⟨#[]⟩) from ⟨by go_simp, by go_simp, by go_simp, by go_simp⟩)
      have HG := Lib.hid (show w.grownBy (((w.alloc (.cells #[.int .i64 p, .string ⟨m.toArray⟩] 57)).alloc (.cells #[.int .i64 x, .string ⟨n.toArray⟩] 57)).alloc (.cells #[.int .i64 0, .string ⟨#[]⟩] 57)).drew none from grownBy_trans (World.grownBy_alloc _ _ _) (grownBy_trans (World.grownBy_alloc _ _ _) (grownBy_trans (World.grownBy_alloc _ _ _) grownBy_drew)))
      generalize (((w.alloc (.cells #[.int .i64 p, .string ⟨m.toArray⟩] 57)).alloc (.cells #[.int .i64 x, .string ⟨n.toArray⟩] 57)).alloc (.cells #[.int .i64 0, .string ⟨#[]⟩] 57)) = w2 at *
      have z4 : w2.drew.grownBy w2.drew none := World.grownBy.refl _ _
      go_region_held3 (fun w' => w'.cell? ⟨w.heap.size, 0, none⟩ = some (.int .i64 p) ∧ w'.cell? ⟨w.heap.size, 1, none⟩ = some (.string ⟨m.toArray⟩) ∧ w'.cell? ⟨w.heap.size + 1, 0, none⟩ = some (.int .i64 x) ∧ w'.cell? ⟨w.heap.size + 1, 1, none⟩ = some (.string ⟨n.toArray⟩) ∧ w2.drew.grownBy w' none) ((refine ⟨by first | assumption | (simp [*]; done), by first | assumption | (simp [*]; done), by first | assumption | (simp [*]; done), by first | assumption | (simp [*]; done), by assumption⟩))
        (first | (go_at_call 55; refine (start_any _ _ _).mono ?_; rintro e w8 ⟨rfl, hg⟩; have q0 := hg.cell (a := ⟨w.heap.size, 0, none⟩) (v := .int .i64 p) (by first | assumption | (simp [*]; done)) (by simp); have q1 := hg.cell (a := ⟨w.heap.size, 1, none⟩) (v := .string ⟨m.toArray⟩) (by first | assumption | (simp [*]; done)) (by simp); have q2 := hg.cell (a := ⟨w.heap.size + 1, 0, none⟩) (v := .int .i64 x) (by first | assumption | (simp [*]; done)) (by simp); have q3 := hg.cell (a := ⟨w.heap.size + 1, 1, none⟩) (v := .string ⟨n.toArray⟩) (by first | assumption | (simp [*]; done)) (by simp); have q4 := grownBy_trans (a := w2.drew) (by assumption) hg))
      rename_i hH
      obtain ⟨y0, y1, y2, y3, y4⟩ := hH
      have HR := Lib.hid y4
      clear z0 z1 z2 z3 z4
      try rw [if_pos hA5]
      go_wp2_with fail
      have z0 := (grownBy_drew (r := none)).cell y0 (by simp)
      have z1 := (grownBy_drew (r := none)).cell y1 (by simp)
      have z2 := (grownBy_drew (r := none)).cell y2 (by simp)
      have z3 := (grownBy_drew (r := none)).cell y3 (by simp)
      have z4 := grownBy_trans HR.out (grownBy_drew (r := none))
      go_region_held3 (fun w' => w'.cell? ⟨w.heap.size, 0, none⟩ = some (.int .i64 p) ∧ w'.cell? ⟨w.heap.size, 1, none⟩ = some (.string ⟨m.toArray⟩) ∧ w'.cell? ⟨w.heap.size + 1, 0, none⟩ = some (.int .i64 x) ∧ w'.cell? ⟨w.heap.size + 1, 1, none⟩ = some (.string ⟨n.toArray⟩) ∧ w2.drew.grownBy w' none) ((refine ⟨by first | assumption | (simp [*]; done), by first | assumption | (simp [*]; done), by first | assumption | (simp [*]; done), by first | assumption | (simp [*]; done), by assumption⟩))
        (first
          | (go_at_call 29; refine (end_any p m _ hp0 (by omega) (by omega)).mono ?_; rintro e w8 ⟨rfl, hg⟩; have q0 := hg.cell (a := ⟨w.heap.size, 0, none⟩) (v := .int .i64 p) (by first | assumption | (simp [*]; done)) (by simp); have q1 := hg.cell (a := ⟨w.heap.size, 1, none⟩) (v := .string ⟨m.toArray⟩) (by first | assumption | (simp [*]; done)) (by simp); have q2 := hg.cell (a := ⟨w.heap.size + 1, 0, none⟩) (v := .int .i64 x) (by first | assumption | (simp [*]; done)) (by simp); have q3 := hg.cell (a := ⟨w.heap.size + 1, 1, none⟩) (v := .string ⟨n.toArray⟩) (by first | assumption | (simp [*]; done)) (by simp); have q4 := grownBy_trans (a := w2.drew) (by assumption) hg)
          | (go_at_call 29; refine (end_any x n _ hx0 (by omega) (by omega)).mono ?_; rintro e w8 ⟨rfl, hg⟩; have q0 := hg.cell (a := ⟨w.heap.size, 0, none⟩) (v := .int .i64 p) (by first | assumption | (simp [*]; done)) (by simp); have q1 := hg.cell (a := ⟨w.heap.size, 1, none⟩) (v := .string ⟨m.toArray⟩) (by first | assumption | (simp [*]; done)) (by simp); have q2 := hg.cell (a := ⟨w.heap.size + 1, 0, none⟩) (v := .int .i64 x) (by first | assumption | (simp [*]; done)) (by simp); have q3 := hg.cell (a := ⟨w.heap.size + 1, 1, none⟩) (v := .string ⟨n.toArray⟩) (by first | assumption | (simp [*]; done)) (by simp); have q4 := grownBy_trans (a := w2.drew) (by assumption) hg))
      rename_i hH
      obtain ⟨x0, x1, x2, x3, x4⟩ := hH
      have HR2 := Lib.hid (And.intro (grownBy_trans HG.out x4) (HT.out.kept x4 (by simp)))
      clear z0 z1 z2 z3 z4 y0 y1 y2 y3 y4
      try rw [if_neg hB2]
      go_wp2_with fail
      go_quiet (fail)
      have hdr : n.drop C = [] := List.drop_eq_nil_of_le (by have := HC.out.1; omega)
      have hstr : (({ data := n.toArray } : ByteArray).extract 0 A ++ { data := m.toArray }) = ⟨(overP (p, m) (x, n)).2.toArray⟩ := by
        rw [HE.out.1, ba_append, HO2.out, hdr, List.append_nil]
      have v0 := (grownBy_drewN (r := none) nq).cell x0 (by simp)
      have v1 := (grownBy_drewN (r := none) nq).cell x1 (by simp)
      have v2 := (grownBy_drewN (r := none) nq).cell x2 (by simp)
      have v3 := (grownBy_drewN (r := none) nq).cell x3 (by simp)
      have HT3 := Lib.hid (HR2.out.2.kept (grownBy_drewN (r := none) nq) (by simp))
      have HG3 := Lib.hid (grownBy_trans HR2.out.1 (grownBy_drewN nq))
      obtain ⟨t0, t1, t2, t3⟩ := HT3.out
      rw [hstr]
      have HV := Lib.hid (show (overP (p, m) (x, n)).1 = x from HO1.out)
      generalize hOV : overP (p, m) (x, n) = ov at *
      obtain ⟨o1, o2⟩ := ov
      have HOV := Lib.hid hOV
      clear hOV
      have hV : o1 = x := HV.out
      clear x0 x1 x2 x3 x4 hstr
      generalize w8.drewN nq = w9 at *
      have hW : w9.grownBy ((w9.setCell ⟨w.heap.size + 1 + 1, 0, none⟩ (.int .i64 x)).setCell ⟨w.heap.size + 1 + 1, 1, none⟩ (.string ⟨o2.toArray⟩)) (some (w.heap.size + 1 + 1)) := grownBy_trans (grownBy_set _ _ _ _) (grownBy_set _ _ _ _)
      have HF := Lib.hid (grownBy_new HG3.out hW (by omega))
      clear hW
      go_wp2_with fail
      exact bodyPost_ret (v := .agg #[.int .i64 x, .string ⟨o2.toArray⟩]) (by simp [results, Try.results54, go_sem, t0, t1]) rfl ⟨by rw [HOV.out, hV], HF.out⟩
  · by_cases hB : 0 < x + (n.length : Int) - (p + (m.length : Int))
    · obtain ⟨D, hA1⟩ : ∃ D : Int, p - x = D := ⟨_, rfl⟩
      obtain ⟨A, hA3⟩ : ∃ A : Nat, A = 0 := ⟨0, rfl⟩
      have hA2 : ¬ (0 : Int) < D := by omega
      have hA4 : D ≤ 0 := by omega
      have hw1 : IntKind.i64.wrap (p - x) = D := by rw [IntWalk.i64_in _ (by omega), hA1]
      have hmn : ¬ x < p := by omega
      have hmn2 : p ≤ x := by omega
      have HO1 := Lib.hid (show (overP (p, m) (x, n)).1 = p from Int.min_eq_left (by omega))
      obtain ⟨B, hB1⟩ : ∃ B : Nat, x + (n.length : Int) - (p + (m.length : Int)) = (B : Int) := ⟨(x + (n.length : Int) - (p + (m.length : Int))).toNat, by omega⟩
      have hB2 : (0 : Int) < (B : Int) := by omega
      have hB5 : 0 < B := by omega
      have hw2 : IntKind.i64.wrap (x + (n.length : Int) - (p + (m.length : Int))) = (B : Int) := by rw [IntWalk.i64_in _ (by omega), hB1]
      have hAn : A ≤ n.length := by omega
      have hBn : B ≤ n.length := by omega
      have HO2 := Lib.hid (show (overP (p, m) (x, n)).2 = n.take A ++ m ++ n.drop (n.length - B) by
        simp only [overP]
        rw [show (max 0 (p - x)).toNat = A by omega, show (max 0 (x + (n.length : Int) - (p + (m.length : Int)))).toNat = B by omega])
      obtain ⟨C, hC⟩ : ∃ C : Nat, n.length - B = C := ⟨_, rfl⟩
      have hw3 : IntKind.i64.wrap ((n.length : Int) - (B : Int)) = (C : Int) := by rw [IntWalk.i64_in _ (by omega)]; omega
      have hCn : (C : Int) ≤ (n.length : Int) := by omega
      have hC0 : (0 : Int) ≤ (C : Int) := by omega
      have hAn2 : (A : Int) ≤ (n.length : Int) := by omega
      have hA0 : (0 : Int) ≤ (A : Int) := by omega
      have e1 := ext_l n 0 A
      have e2 := ext_l n C n.length
      simp only [List.drop_zero] at e1
      rw [List.take_length] at e2
      have HE := Lib.hid (And.intro e1 e2)
      rw [hC] at HO2
      have HC := Lib.hid (And.intro hC (And.intro hA1 hB1))
      have l1 : (n.take A).length = A := by rw [List.length_take]; omega
      have l2 : (n.drop C).length = n.length - C := List.length_drop ..
      clear e1 e2 hC hA1 hB1 hA hB
      subst hA3
      go_enter Try.func54, Try.ntmps54
      go_wp2_with fail
      have z0 : (((w.alloc (.cells #[.int .i64 p, .string ⟨m.toArray⟩] 57)).alloc (.cells #[.int .i64 x, .string ⟨n.toArray⟩] 57)).alloc (.cells #[.int .i64 0, .string ⟨#[]⟩] 57)).drew.cell? ⟨w.heap.size, 0, none⟩ = some (.int .i64 p) := by go_simp
      have z1 : (((w.alloc (.cells #[.int .i64 p, .string ⟨m.toArray⟩] 57)).alloc (.cells #[.int .i64 x, .string ⟨n.toArray⟩] 57)).alloc (.cells #[.int .i64 0, .string ⟨#[]⟩] 57)).drew.cell? ⟨w.heap.size, 1, none⟩ = some (.string ⟨m.toArray⟩) := by go_simp
      have z2 : (((w.alloc (.cells #[.int .i64 p, .string ⟨m.toArray⟩] 57)).alloc (.cells #[.int .i64 x, .string ⟨n.toArray⟩] 57)).alloc (.cells #[.int .i64 0, .string ⟨#[]⟩] 57)).drew.cell? ⟨w.heap.size + 1, 0, none⟩ = some (.int .i64 x) := by go_simp
      have z3 : (((w.alloc (.cells #[.int .i64 p, .string ⟨m.toArray⟩] 57)).alloc (.cells #[.int .i64 x, .string ⟨n.toArray⟩] 57)).alloc (.cells #[.int .i64 0, .string ⟨#[]⟩] 57)).drew.cell? ⟨w.heap.size + 1, 1, none⟩ = some (.string ⟨n.toArray⟩) := by go_simp
      have HT := Lib.hid (show Two (((w.alloc (.cells #[.int .i64 p, .string ⟨m.toArray⟩] 57)).alloc (.cells #[.int .i64 x, .string ⟨n.toArray⟩] 57)).alloc (.cells #[.int .i64 0, .string ⟨#[]⟩] 57)).drew (w.heap.size + 1 + 1) (.int .i64 0) (.string ⟨#[]⟩) from ⟨by go_simp, by go_simp, by go_simp, by go_simp⟩)
      have HG := Lib.hid (show w.grownBy (((w.alloc (.cells #[.int .i64 p, .string ⟨m.toArray⟩] 57)).alloc (.cells #[.int .i64 x, .string ⟨n.toArray⟩] 57)).alloc (.cells #[.int .i64 0, .string ⟨#[]⟩] 57)).drew none from grownBy_trans (World.grownBy_alloc _ _ _) (grownBy_trans (World.grownBy_alloc _ _ _) (grownBy_trans (World.grownBy_alloc _ _ _) grownBy_drew)))
      generalize (((w.alloc (.cells #[.int .i64 p, .string ⟨m.toArray⟩] 57)).alloc (.cells #[.int .i64 x, .string ⟨n.toArray⟩] 57)).alloc (.cells #[.int .i64 0, .string ⟨#[]⟩] 57)) = w2 at *
      have z4 : w2.drew.grownBy w2.drew none := World.grownBy.refl _ _
      go_region_held3 (fun w' => w'.cell? ⟨w.heap.size, 0, none⟩ = some (.int .i64 p) ∧ w'.cell? ⟨w.heap.size, 1, none⟩ = some (.string ⟨m.toArray⟩) ∧ w'.cell? ⟨w.heap.size + 1, 0, none⟩ = some (.int .i64 x) ∧ w'.cell? ⟨w.heap.size + 1, 1, none⟩ = some (.string ⟨n.toArray⟩) ∧ w2.drew.grownBy w' none) ((refine ⟨by first | assumption | (simp [*]; done), by first | assumption | (simp [*]; done), by first | assumption | (simp [*]; done), by first | assumption | (simp [*]; done), by assumption⟩))
        (first | (go_at_call 55; refine (start_any _ _ _).mono ?_; rintro e w8 ⟨rfl, hg⟩; have q0 := hg.cell (a := ⟨w.heap.size, 0, none⟩) (v := .int .i64 p) (by first | assumption | (simp [*]; done)) (by simp); have q1 := hg.cell (a := ⟨w.heap.size, 1, none⟩) (v := .string ⟨m.toArray⟩) (by first | assumption | (simp [*]; done)) (by simp); have q2 := hg.cell (a := ⟨w.heap.size + 1, 0, none⟩) (v := .int .i64 x) (by first | assumption | (simp [*]; done)) (by simp); have q3 := hg.cell (a := ⟨w.heap.size + 1, 1, none⟩) (v := .string ⟨n.toArray⟩) (by first | assumption | (simp [*]; done)) (by simp); have q4 := grownBy_trans (a := w2.drew) (by assumption) hg))
      rename_i hH
      obtain ⟨y0, y1, y2, y3, y4⟩ := hH
      have HR := Lib.hid y4
      clear z0 z1 z2 z3 z4
      try rw [if_neg hA2]
      go_wp2_with fail
      have z0 := (grownBy_drew (r := none)).cell y0 (by simp)
      have z1 := (grownBy_drew (r := none)).cell y1 (by simp)
      have z2 := (grownBy_drew (r := none)).cell y2 (by simp)
      have z3 := (grownBy_drew (r := none)).cell y3 (by simp)
      have z4 := grownBy_trans HR.out (grownBy_drew (r := none))
      go_region_held3 (fun w' => w'.cell? ⟨w.heap.size, 0, none⟩ = some (.int .i64 p) ∧ w'.cell? ⟨w.heap.size, 1, none⟩ = some (.string ⟨m.toArray⟩) ∧ w'.cell? ⟨w.heap.size + 1, 0, none⟩ = some (.int .i64 x) ∧ w'.cell? ⟨w.heap.size + 1, 1, none⟩ = some (.string ⟨n.toArray⟩) ∧ w2.drew.grownBy w' none) ((refine ⟨by first | assumption | (simp [*]; done), by first | assumption | (simp [*]; done), by first | assumption | (simp [*]; done), by first | assumption | (simp [*]; done), by assumption⟩))
        (first
          | (go_at_call 29; refine (end_any p m _ hp0 (by omega) (by omega)).mono ?_; rintro e w8 ⟨rfl, hg⟩; have q0 := hg.cell (a := ⟨w.heap.size, 0, none⟩) (v := .int .i64 p) (by first | assumption | (simp [*]; done)) (by simp); have q1 := hg.cell (a := ⟨w.heap.size, 1, none⟩) (v := .string ⟨m.toArray⟩) (by first | assumption | (simp [*]; done)) (by simp); have q2 := hg.cell (a := ⟨w.heap.size + 1, 0, none⟩) (v := .int .i64 x) (by first | assumption | (simp [*]; done)) (by simp); have q3 := hg.cell (a := ⟨w.heap.size + 1, 1, none⟩) (v := .string ⟨n.toArray⟩) (by first | assumption | (simp [*]; done)) (by simp); have q4 := grownBy_trans (a := w2.drew) (by assumption) hg)
          | (go_at_call 29; refine (end_any x n _ hx0 (by omega) (by omega)).mono ?_; rintro e w8 ⟨rfl, hg⟩; have q0 := hg.cell (a := ⟨w.heap.size, 0, none⟩) (v := .int .i64 p) (by first | assumption | (simp [*]; done)) (by simp); have q1 := hg.cell (a := ⟨w.heap.size, 1, none⟩) (v := .string ⟨m.toArray⟩) (by first | assumption | (simp [*]; done)) (by simp); have q2 := hg.cell (a := ⟨w.heap.size + 1, 0, none⟩) (v := .int .i64 x) (by first | assumption | (simp [*]; done)) (by simp); have q3 := hg.cell (a := ⟨w.heap.size + 1, 1, none⟩) (v := .string ⟨n.toArray⟩) (by first | assumption | (simp [*]; done)) (by simp); have q4 := grownBy_trans (a := w2.drew) (by assumption) hg))
      rename_i hH
      obtain ⟨x0, x1, x2, x3, x4⟩ := hH
      have HR2 := Lib.hid (And.intro (grownBy_trans HG.out x4) (HT.out.kept x4 (by simp)))
      clear z0 z1 z2 z3 z4 y0 y1 y2 y3 y4
      try rw [if_pos hB5]
      go_wp2_with fail
      go_quiet (fail)
      have hstr : (({ data := m.toArray } : ByteArray) ++ ({ data := n.toArray } : ByteArray).extract C n.length) = ⟨(overP (p, m) (x, n)).2.toArray⟩ := by
        rw [HE.out.2, ba_append, HO2.out, List.take_zero, List.nil_append]
      have v0 := (grownBy_drewN (r := none) nq).cell x0 (by simp)
      have v1 := (grownBy_drewN (r := none) nq).cell x1 (by simp)
      have v2 := (grownBy_drewN (r := none) nq).cell x2 (by simp)
      have v3 := (grownBy_drewN (r := none) nq).cell x3 (by simp)
      have HT3 := Lib.hid (HR2.out.2.kept (grownBy_drewN (r := none) nq) (by simp))
      have HG3 := Lib.hid (grownBy_trans HR2.out.1 (grownBy_drewN nq))
      obtain ⟨t0, t1, t2, t3⟩ := HT3.out
      rw [hstr]
      have HV := Lib.hid (show (overP (p, m) (x, n)).1 = p from HO1.out)
      generalize hOV : overP (p, m) (x, n) = ov at *
      obtain ⟨o1, o2⟩ := ov
      have HOV := Lib.hid hOV
      clear hOV
      have hV : o1 = p := HV.out
      clear x0 x1 x2 x3 x4 hstr
      generalize w8.drewN nq = w9 at *
      have hW : w9.grownBy ((w9.setCell ⟨w.heap.size + 1 + 1, 0, none⟩ (.int .i64 p)).setCell ⟨w.heap.size + 1 + 1, 1, none⟩ (.string ⟨o2.toArray⟩)) (some (w.heap.size + 1 + 1)) := grownBy_trans (grownBy_set _ _ _ _) (grownBy_set _ _ _ _)
      have HF := Lib.hid (grownBy_new HG3.out hW (by omega))
      clear hW
      go_wp2_with fail
      exact bodyPost_ret (v := .agg #[.int .i64 p, .string ⟨o2.toArray⟩]) (by simp [results, Try.results54, go_sem, t0, t1]) rfl ⟨by rw [HOV.out, hV], HF.out⟩
    · obtain ⟨D, hA1⟩ : ∃ D : Int, p - x = D := ⟨_, rfl⟩
      obtain ⟨A, hA3⟩ : ∃ A : Nat, A = 0 := ⟨0, rfl⟩
      have hA2 : ¬ (0 : Int) < D := by omega
      have hA4 : D ≤ 0 := by omega
      have hw1 : IntKind.i64.wrap (p - x) = D := by rw [IntWalk.i64_in _ (by omega), hA1]
      have hmn : ¬ x < p := by omega
      have hmn2 : p ≤ x := by omega
      have HO1 := Lib.hid (show (overP (p, m) (x, n)).1 = p from Int.min_eq_left (by omega))
      obtain ⟨D2, hB1⟩ : ∃ D2 : Int, x + (n.length : Int) - (p + (m.length : Int)) = D2 := ⟨_, rfl⟩
      obtain ⟨B, hB3⟩ : ∃ B : Nat, B = 0 := ⟨0, rfl⟩
      have hB2 : ¬ (0 : Int) < D2 := by omega
      have hB4 : D2 ≤ 0 := by omega
      have hw2 : IntKind.i64.wrap (x + (n.length : Int) - (p + (m.length : Int))) = D2 := by rw [IntWalk.i64_in _ (by omega), hB1]
      have hAn : A ≤ n.length := by omega
      have hBn : B ≤ n.length := by omega
      have HO2 := Lib.hid (show (overP (p, m) (x, n)).2 = n.take A ++ m ++ n.drop (n.length - B) by
        simp only [overP]
        rw [show (max 0 (p - x)).toNat = A by omega, show (max 0 (x + (n.length : Int) - (p + (m.length : Int)))).toNat = B by omega])
      obtain ⟨C, hC⟩ : ∃ C : Nat, n.length - B = C := ⟨_, rfl⟩
      have hw3 : IntKind.i64.wrap ((n.length : Int) - (B : Int)) = (C : Int) := by rw [IntWalk.i64_in _ (by omega)]; omega
      have hCn : (C : Int) ≤ (n.length : Int) := by omega
      have hC0 : (0 : Int) ≤ (C : Int) := by omega
      have hAn2 : (A : Int) ≤ (n.length : Int) := by omega
      have hA0 : (0 : Int) ≤ (A : Int) := by omega
      have e1 := ext_l n 0 A
      have e2 := ext_l n C n.length
      simp only [List.drop_zero] at e1
      rw [List.take_length] at e2
      have HE := Lib.hid (And.intro e1 e2)
      rw [hC] at HO2
      have HC := Lib.hid (And.intro hC (And.intro hA1 hB1))
      have l1 : (n.take A).length = A := by rw [List.length_take]; omega
      have l2 : (n.drop C).length = n.length - C := List.length_drop ..
      clear e1 e2 hC hA1 hB1 hA hB
      subst hA3
      subst hB3
      go_enter Try.func54, Try.ntmps54
      go_wp2_with fail
      have z0 : (((w.alloc (.cells #[.int .i64 p, .string ⟨m.toArray⟩] 57)).alloc (.cells #[.int .i64 x, .string ⟨n.toArray⟩] 57)).alloc (.cells #[.int .i64 0, .string ⟨#[]⟩] 57)).drew.cell? ⟨w.heap.size, 0, none⟩ = some (.int .i64 p) := by go_simp
      have z1 : (((w.alloc (.cells #[.int .i64 p, .string ⟨m.toArray⟩] 57)).alloc (.cells #[.int .i64 x, .string ⟨n.toArray⟩] 57)).alloc (.cells #[.int .i64 0, .string ⟨#[]⟩] 57)).drew.cell? ⟨w.heap.size, 1, none⟩ = some (.string ⟨m.toArray⟩) := by go_simp
      have z2 : (((w.alloc (.cells #[.int .i64 p, .string ⟨m.toArray⟩] 57)).alloc (.cells #[.int .i64 x, .string ⟨n.toArray⟩] 57)).alloc (.cells #[.int .i64 0, .string ⟨#[]⟩] 57)).drew.cell? ⟨w.heap.size + 1, 0, none⟩ = some (.int .i64 x) := by go_simp
      have z3 : (((w.alloc (.cells #[.int .i64 p, .string ⟨m.toArray⟩] 57)).alloc (.cells #[.int .i64 x, .string ⟨n.toArray⟩] 57)).alloc (.cells #[.int .i64 0, .string ⟨#[]⟩] 57)).drew.cell? ⟨w.heap.size + 1, 1, none⟩ = some (.string ⟨n.toArray⟩) := by go_simp
      have HT := Lib.hid (show Two (((w.alloc (.cells #[.int .i64 p, .string ⟨m.toArray⟩] 57)).alloc (.cells #[.int .i64 x, .string ⟨n.toArray⟩] 57)).alloc (.cells #[.int .i64 0, .string ⟨#[]⟩] 57)).drew (w.heap.size + 1 + 1) (.int .i64 0) (.string ⟨#[]⟩) from ⟨by go_simp, by go_simp, by go_simp, by go_simp⟩)
      have HG := Lib.hid (show w.grownBy (((w.alloc (.cells #[.int .i64 p, .string ⟨m.toArray⟩] 57)).alloc (.cells #[.int .i64 x, .string ⟨n.toArray⟩] 57)).alloc (.cells #[.int .i64 0, .string ⟨#[]⟩] 57)).drew none from grownBy_trans (World.grownBy_alloc _ _ _) (grownBy_trans (World.grownBy_alloc _ _ _) (grownBy_trans (World.grownBy_alloc _ _ _) grownBy_drew)))
      generalize (((w.alloc (.cells #[.int .i64 p, .string ⟨m.toArray⟩] 57)).alloc (.cells #[.int .i64 x, .string ⟨n.toArray⟩] 57)).alloc (.cells #[.int .i64 0, .string ⟨#[]⟩] 57)) = w2 at *
      have z4 : w2.drew.grownBy w2.drew none := World.grownBy.refl _ _
      go_region_held3 (fun w' => w'.cell? ⟨w.heap.size, 0, none⟩ = some (.int .i64 p) ∧ w'.cell? ⟨w.heap.size, 1, none⟩ = some (.string ⟨m.toArray⟩) ∧ w'.cell? ⟨w.heap.size + 1, 0, none⟩ = some (.int .i64 x) ∧ w'.cell? ⟨w.heap.size + 1, 1, none⟩ = some (.string ⟨n.toArray⟩) ∧ w2.drew.grownBy w' none) ((refine ⟨by first | assumption | (simp [*]; done), by first | assumption | (simp [*]; done), by first | assumption | (simp [*]; done), by first | assumption | (simp [*]; done), by assumption⟩))
        (first | (go_at_call 55; refine (start_any _ _ _).mono ?_; rintro e w8 ⟨rfl, hg⟩; have q0 := hg.cell (a := ⟨w.heap.size, 0, none⟩) (v := .int .i64 p) (by first | assumption | (simp [*]; done)) (by simp); have q1 := hg.cell (a := ⟨w.heap.size, 1, none⟩) (v := .string ⟨m.toArray⟩) (by first | assumption | (simp [*]; done)) (by simp); have q2 := hg.cell (a := ⟨w.heap.size + 1, 0, none⟩) (v := .int .i64 x) (by first | assumption | (simp [*]; done)) (by simp); have q3 := hg.cell (a := ⟨w.heap.size + 1, 1, none⟩) (v := .string ⟨n.toArray⟩) (by first | assumption | (simp [*]; done)) (by simp); have q4 := grownBy_trans (a := w2.drew) (by assumption) hg))
      rename_i hH
      obtain ⟨y0, y1, y2, y3, y4⟩ := hH
      have HR := Lib.hid y4
      clear z0 z1 z2 z3 z4
      try rw [if_neg hA2]
      go_wp2_with fail
      have z0 := (grownBy_drew (r := none)).cell y0 (by simp)
      have z1 := (grownBy_drew (r := none)).cell y1 (by simp)
      have z2 := (grownBy_drew (r := none)).cell y2 (by simp)
      have z3 := (grownBy_drew (r := none)).cell y3 (by simp)
      have z4 := grownBy_trans HR.out (grownBy_drew (r := none))
      go_region_held3 (fun w' => w'.cell? ⟨w.heap.size, 0, none⟩ = some (.int .i64 p) ∧ w'.cell? ⟨w.heap.size, 1, none⟩ = some (.string ⟨m.toArray⟩) ∧ w'.cell? ⟨w.heap.size + 1, 0, none⟩ = some (.int .i64 x) ∧ w'.cell? ⟨w.heap.size + 1, 1, none⟩ = some (.string ⟨n.toArray⟩) ∧ w2.drew.grownBy w' none) ((refine ⟨by first | assumption | (simp [*]; done), by first | assumption | (simp [*]; done), by first | assumption | (simp [*]; done), by first | assumption | (simp [*]; done), by assumption⟩))
        (first
          | (go_at_call 29; refine (end_any p m _ hp0 (by omega) (by omega)).mono ?_; rintro e w8 ⟨rfl, hg⟩; have q0 := hg.cell (a := ⟨w.heap.size, 0, none⟩) (v := .int .i64 p) (by first | assumption | (simp [*]; done)) (by simp); have q1 := hg.cell (a := ⟨w.heap.size, 1, none⟩) (v := .string ⟨m.toArray⟩) (by first | assumption | (simp [*]; done)) (by simp); have q2 := hg.cell (a := ⟨w.heap.size + 1, 0, none⟩) (v := .int .i64 x) (by first | assumption | (simp [*]; done)) (by simp); have q3 := hg.cell (a := ⟨w.heap.size + 1, 1, none⟩) (v := .string ⟨n.toArray⟩) (by first | assumption | (simp [*]; done)) (by simp); have q4 := grownBy_trans (a := w2.drew) (by assumption) hg)
          | (go_at_call 29; refine (end_any x n _ hx0 (by omega) (by omega)).mono ?_; rintro e w8 ⟨rfl, hg⟩; have q0 := hg.cell (a := ⟨w.heap.size, 0, none⟩) (v := .int .i64 p) (by first | assumption | (simp [*]; done)) (by simp); have q1 := hg.cell (a := ⟨w.heap.size, 1, none⟩) (v := .string ⟨m.toArray⟩) (by first | assumption | (simp [*]; done)) (by simp); have q2 := hg.cell (a := ⟨w.heap.size + 1, 0, none⟩) (v := .int .i64 x) (by first | assumption | (simp [*]; done)) (by simp); have q3 := hg.cell (a := ⟨w.heap.size + 1, 1, none⟩) (v := .string ⟨n.toArray⟩) (by first | assumption | (simp [*]; done)) (by simp); have q4 := grownBy_trans (a := w2.drew) (by assumption) hg))
      rename_i hH
      obtain ⟨x0, x1, x2, x3, x4⟩ := hH
      have HR2 := Lib.hid (And.intro (grownBy_trans HG.out x4) (HT.out.kept x4 (by simp)))
      clear z0 z1 z2 z3 z4 y0 y1 y2 y3 y4
      try rw [if_neg hB2]
      go_wp2_with fail
      go_quiet (fail)
      have hdr : n.drop C = [] := List.drop_eq_nil_of_le (by have := HC.out.1; omega)
      have hstr : ({ data := m.toArray } : ByteArray) = ⟨(overP (p, m) (x, n)).2.toArray⟩ := by
        rw [HO2.out, hdr, List.append_nil, List.take_zero, List.nil_append]
      have v0 := (grownBy_drewN (r := none) nq).cell x0 (by simp)
      have v1 := (grownBy_drewN (r := none) nq).cell x1 (by simp)
      have v2 := (grownBy_drewN (r := none) nq).cell x2 (by simp)
      have v3 := (grownBy_drewN (r := none) nq).cell x3 (by simp)
      have HT3 := Lib.hid (HR2.out.2.kept (grownBy_drewN (r := none) nq) (by simp))
      have HG3 := Lib.hid (grownBy_trans HR2.out.1 (grownBy_drewN nq))
      obtain ⟨t0, t1, t2, t3⟩ := HT3.out
      have HV := Lib.hid (show (overP (p, m) (x, n)).1 = p from HO1.out)
      generalize hOV : overP (p, m) (x, n) = ov at *
      obtain ⟨o1, o2⟩ := ov
      have HOV := Lib.hid hOV
      clear hOV
      have hV : o1 = p := HV.out
      clear x0 x1 x2 x3 x4 hstr
      have hO2 : o2 = m := by have := HO2.out; simpa [hdr] using this
      generalize w8.drewN nq = w9 at *
      have hW : w9.grownBy ((w9.setCell ⟨w.heap.size + 1 + 1, 0, none⟩ (.int .i64 p)).setCell ⟨w.heap.size + 1 + 1, 1, none⟩ (.string ⟨m.toArray⟩)) (some (w.heap.size + 1 + 1)) := grownBy_trans (grownBy_set _ _ _ _) (grownBy_set _ _ _ _)
      have HF := Lib.hid (grownBy_new HG3.out hW (by omega))
      clear hW
      go_wp2_with fail
      exact bodyPost_ret (v := .agg #[.int .i64 p, .string ⟨m.toArray⟩]) (by simp [results, Try.results54, go_sem, t0, t1]) rfl ⟨by rw [HOV.out, hV, hO2], HF.out⟩

end Go.Proofs.Ytaigdimicnlfdaa
