/- Clocks: the program's step. -/
import Derived.Test.YthnmkghaejapjaaRtW
import Derived.Lib.Hide
import Derived.Deep.RegionHeld3
namespace Go.Proofs.Ythnmkghaejapjaa
open Go.RowKit Go.Shelf
attribute [local go_sem] Oper.semAt_some

theorem grownBy_drew {a : World} {r : Option Nat} : a.grownBy a.drew r := ⟨rfl, rfl, rfl, Nat.le_refl _, fun _ _ _ => rfl⟩
theorem grown_frozen {a b : World} {row : Option Nat} (hg : a.grownBy b row) {p : Addr} {v : Value} (h : a.cell? p = some v) (hne : some p.block ≠ row) {x : Bool} (hf : a.frozen? p = x) : b.frozen? p = x := by
  rw [World.frozen?_of_block (hg.block p.block (World.block_lt_of_cell? a p h) hne)]
  exact hf
theorem grown_set {w W : World} (h : w.grownBy W none) {b : Nat} (hb : w.heap.size ≤ b) (i : Nat) (v : Value) : w.grownBy (W.setCell ⟨b, i, none⟩ v) none :=
  ⟨h.os, h.tape, h.output, by simp [World.setCell]; exact h.size, fun k hk hne => (Below.heap_setCell _ _ _ k (by simp; omega)).trans (h.block k hk hne)⟩
theorem drew_size (w : World) : w.drew.heap.size = w.heap.size := rfl
theorem q_slice (W : World) (ms : Int) : (((W.alloc (.cells #[.int .i64 ms] 2)).alloc (.cells #[.slice (some ⟨W.heap.size, 0, none⟩) 1 1] 47)).drew).cell? ⟨W.heap.size + 1, 0, none⟩ = some (.slice (some ⟨W.heap.size, 0, none⟩) 1 1) := by
  have h := (Boxed.new (W.alloc (.cells #[.int .i64 ms] 2)) 47 (.slice (some ⟨W.heap.size, 0, none⟩) 1 1)).cell
  rw [World.size_alloc] at h
  exact h
theorem q_ms (W : World) (ms : Int) (o : Obj) : (((W.alloc (.cells #[.int .i64 ms] 2)).alloc o).drew).cell? ⟨W.heap.size, 0, none⟩ = some (.int .i64 ms) :=
  ((Boxed.new W 2 (.int .i64 ms)).alloc o).cell

theorem one_vals (a : Option Addr) (len cap : Nat) (w : World) :
    Calls Try.prog 28 #[.slice a len cap] w fun e w' => e = .returned (.func (.func 36) #[] #[.pointer (some ⟨w.heap.size, 0, none⟩)]) ∧ w' = w.alloc (.cells #[.slice a len cap] 47) :=
  (callsIn_wide (n := 3)).1 (one_val Fence.wide 3 trivial rfl a len cap w)

theorem step_form (h : Bool) (m v r ms : Int) : ∃ (h' : Bool) (m' v' r' : Int), rtStepV h m v r ms = .agg #[.bool h', .int .i64 m', .int .i64 v', .int .i64 r'] := by
  unfold rtStepV
  split
  · exact ⟨_, _, _, _, rfl⟩
  · exact ⟨_, _, _, _, rfl⟩

set_option maxRecDepth 100000 in
set_option maxHeartbeats 2000000 in
theorem rt_step_impl (h : Bool) (m v r ms : Int) (w : World) : Calls Try.prog 11 #[rtV4 h m v r, .int .i64 ms] w fun e w' => e = .returned (rtStepV h m v r ms) ∧ w.grownBy w' none := by
  obtain ⟨h', m', v', r', hv⟩ := step_form h m v r ms
  have hbeh := fun w Bs b cap h1 h2 h3 h4 => beh_any h m v r ms w Bs b cap h1 h2 h3 h4
  simp only [hv] at hbeh
  rw [hv]
  unfold rtV4 at hbeh ⊢
  have HB := Lib.hid hbeh
  clear hbeh hv
  go_enter Try.func11, Try.ntmps11
  go_wp2_with fail
  have q1 := q_slice ((w.alloc (.cells #[.bool h, .int .i64 m, .int .i64 v, .int .i64 r] 25)).alloc (.cells #[.bool false, .int .i64 0, .int .i64 0, .int .i64 0] 25)) ms
  have q2 := q_ms ((w.alloc (.cells #[.bool h, .int .i64 m, .int .i64 v, .int .i64 r] 25)).alloc (.cells #[.bool false, .int .i64 0, .int .i64 0, .int .i64 0] 25)) ms (.cells #[.slice (some ⟨((w.alloc (.cells #[.bool h, .int .i64 m, .int .i64 v, .int .i64 r] 25)).alloc (.cells #[.bool false, .int .i64 0, .int .i64 0, .int .i64 0] 25)).heap.size, 0, none⟩) 1 1] 47)
  simp only [World.size_alloc] at q1 q2
  go_region_held3 (fun w' => w'.cell? ⟨w.heap.size, 0, none⟩ = some (.bool h) ∧ w'.cell? ⟨w.heap.size, 1, none⟩ = some (.int .i64 m) ∧ w'.cell? ⟨w.heap.size, 2, none⟩ = some (.int .i64 v) ∧ w'.cell? ⟨w.heap.size, 3, none⟩ = some (.int .i64 r) ∧ w.grownBy w' none) ((refine ⟨by first | with_reducible assumption | (go_simp; done), by first | with_reducible assumption | (go_simp; done), by first | with_reducible assumption | (go_simp; done), by first | with_reducible assumption | (go_simp; done), by (repeat (first | with_reducible assumption | exact World.grownBy.refl _ _ | refine grownBy_trans ?_ (World.grownBy_alloc _ _ _) | refine grownBy_trans ?_ grownBy_drew | refine grown_set ?_ (by omega) _ _))⟩)) (first | (go_at_call 28; refine (one_vals _ _ _ _).mono ?_; rintro e w1 ⟨rfl, rfl⟩) | (go_at_call 27; refine (HB.out _ _ (w.heap.size + 1 + 1) 1 ?_ ?_ ?_ ?_).mono ?_; (simp only [drew_size, World.size_alloc]; omega); (simp only [drew_size, World.size_alloc]; omega); exact q1; exact q2;  rintro e w2 ⟨rfl, hg⟩; have b0 := hg.cell (a := ⟨w.heap.size, 0, none⟩) (v := .bool h) (by first | (go_simp; done)) (by first | (simp; done)); have b1 := hg.cell (a := ⟨w.heap.size, 1, none⟩) (v := .int .i64 m) (by first | (go_simp; done)) (by first | (simp; done)); have b2 := hg.cell (a := ⟨w.heap.size, 2, none⟩) (v := .int .i64 v) (by first | (go_simp; done)) (by first | (simp; done)); have b3 := hg.cell (a := ⟨w.heap.size, 3, none⟩) (v := .int .i64 r) (by first | (go_simp; done)) (by first | (simp; done)); have z0 := hg.cell (a := ⟨w.heap.size + 1, 0, none⟩) (v := .bool false) (by first | (go_simp; done)) (by first | (simp; done)); have f0 := grown_frozen hg (x := false) (p := ⟨w.heap.size + 1, 0, none⟩) (v := .bool false) (by first | (go_simp; done)) (by first | (simp; done)) (by first | (go_simp; done)); have z1 := hg.cell (a := ⟨w.heap.size + 1, 1, none⟩) (v := .int .i64 0) (by first | (go_simp; done)) (by first | (simp; done)); have f1 := grown_frozen hg (x := false) (p := ⟨w.heap.size + 1, 1, none⟩) (v := .int .i64 0) (by first | (go_simp; done)) (by first | (simp; done)) (by first | (go_simp; done)); have z2 := hg.cell (a := ⟨w.heap.size + 1, 2, none⟩) (v := .int .i64 0) (by first | (go_simp; done)) (by first | (simp; done)); have f2 := grown_frozen hg (x := false) (p := ⟨w.heap.size + 1, 2, none⟩) (v := .int .i64 0) (by first | (go_simp; done)) (by first | (simp; done)) (by first | (go_simp; done)); have z3 := hg.cell (a := ⟨w.heap.size + 1, 3, none⟩) (v := .int .i64 0) (by first | (go_simp; done)) (by first | (simp; done)); have f3 := grown_frozen hg (x := false) (p := ⟨w.heap.size + 1, 3, none⟩) (v := .int .i64 0) (by first | (go_simp; done)) (by first | (simp; done)) (by first | (go_simp; done)); have HG : w.grownBy w2 none := by (refine grownBy_trans ?_ hg; (repeat (first | with_reducible assumption | exact World.grownBy.refl _ _ | refine grownBy_trans ?_ (World.grownBy_alloc _ _ _) | refine grownBy_trans ?_ grownBy_drew | refine grown_set ?_ (by omega) _ _)))))
  rename_i hHeld
  obtain ⟨-, -, -, -, HG2⟩ := hHeld
  go_wp2_with fail
  exact bodyPost_ret (v := .agg #[.bool h', .int .i64 m', .int .i64 v', .int .i64 r']) (by simp [results, Try.results11, go_sem, z0, z1, z2, z3]) rfl ⟨rfl, HG2⟩

end Go.Proofs.Ythnmkghaejapjaa
