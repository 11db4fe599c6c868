/- A step of a state of a pipe, as a function; the program's. -/
import Derived.Test.YteomllgkcolmhaaBbD
import Derived.Test.YteomllgkcolmhaaFlE
namespace Go.Proofs.Yteomllgkcolmhaa
open Go.RowKit

structure Bb where
  p : Int
  l : List Rg
  r : Int
  f : Int
  s : Int
  t : Int
def bbZ : Bb := ⟨0, [], 0, 0, 0, 0⟩
def upF (L : List Rg) (R f s t : Int) : Bb := if 0 < bestF L ∧ f + f / 4 ≤ bestF L then ⟨1, L, R, bestF L, 0, t⟩ else ⟨if s + 1 = 3 then 2 else 1, L, R, f, s + 1, t⟩
def drF (L : List Rg) (R f s t fl : Int) : Bb := ⟨if fl ≤ pipeF L R then 3 else 2, L, R, f, s, t⟩
def prF (L : List Rg) (R f s t : Int) : Bb := ⟨3, L, R, f, s, (t + 1) % 8⟩
def mnI (a b : Int) : Int := if a < b then a else b
def stepN (b : Bb) (x : Rg) (q fl : Int) : Bb :=
  if b.p = 1 then upF (addF b.l x (10 * b.r)) (mnI b.r q) b.f b.s b.t else if b.p = 2 then drF (addF b.l x (10 * b.r)) (mnI b.r q) b.f b.s b.t fl else prF (addF b.l x (10 * b.r)) (mnI b.r q) b.f b.s b.t
def stepP (b : Bb) (x : Rg) (q fl : Int) : Prop := bbOk b.p b.l b.r b.f b.s b.t = true ∧ inB q 1 60000 = true ∧ inB fl 0 1000000000 = true ∧ addP b.l x (10 * b.r)
noncomputable def stepOk (b : Bb) (x : Rg) (q fl : Int) : Bool := @decide (stepP b x q fl) (Classical.propDecidable _)
noncomputable def stepB (b : Bb) (x : Rg) (q fl : Int) : Bb := if stepOk b x q fl = true then stepN b x q fl else bbZ
theorem stepOk_of {b : Bb} {x : Rg} {q fl : Int} (h : stepOk b x q fl = true) : stepP b x q fl := by simpa [stepOk] using h
theorem stepOk_yes {b : Bb} {x : Rg} {q fl : Int} (h : stepP b x q fl) : stepOk b x q fl = true := by simpa [stepOk] using h
theorem stepOk_no {b : Bb} {x : Rg} {q fl : Int} (h : ¬ stepP b x q fl) : stepOk b x q fl = false := by simpa [stepOk] using h
theorem stepB_yes {b : Bb} {x : Rg} {q fl : Int} (h : stepP b x q fl) : stepB b x q fl = stepN b x q fl := by rw [stepB, stepOk_yes h]; rfl
theorem stepB_no {b : Bb} {x : Rg} {q fl : Int} (h : ¬ stepP b x q fl) : stepB b x q fl = bbZ := by rw [stepB, stepOk_no h]; rfl
abbrev ofB (b : Bb) (a : Option Addr) (c : Nat) : Value := bbV b.p a b.l.length c b.r b.f b.s b.t
def BsPost (w : World) (u : Bb) (ok : Bool) (e : Ending) (w' : World) : Prop :=
  ∃ a c, e = .returned (.tuple #[ofB u a c, .bool ok]) ∧ w.grownBy w' none ∧ OwnRg w' w.heap.size a c u.l
theorem bs_no {w w' : World} {b : Bb} {x : Rg} {q fl : Int} (h : ¬ stepP b x q fl) (hg : w.grownBy w' none) : BsPost w (stepB b x q fl) (stepOk b x q fl) (.returned (.tuple #[bbV 0 none 0 0 0 0 0 0, .bool false])) w' := by
  refine ⟨none, 0, ?_, hg, ?_⟩
  · rw [stepB_no h, stepOk_no h]; rfl
  · rw [stepB_no h]; exact World.ownsRow_nil _ _ _ _
theorem bs_yes {w w' : World} {b u : Bb} {x : Rg} {q fl : Int} {a : Option Addr} {c B : Nat} (h : stepP b x q fl) (hu : stepN b x q fl = u) (hg : w.grownBy w' none) (ho : OwnRg w' B a c u.l) (hB : w.heap.size ≤ B) : BsPost w (stepB b x q fl) (stepOk b x q fl) (.returned (.tuple #[ofB u a c, .bool true])) w' := by
  rw [stepB_yes h, stepOk_yes h, hu]
  exact ⟨a, c, rfl, hg, own_base ho hB⟩
theorem stepN_l (b : Bb) (x : Rg) (q fl : Int) : (stepN b x q fl).l = addF b.l x (10 * b.r) := by
  unfold stepN upF drF prF
  repeat' split
  all_goals rfl
theorem step_len (b : Bb) (x : Rg) (q fl : Int) : (stepB b x q fl).l.length ≤ 100 := by
  by_cases h : stepP b x q fl
  · rw [stepB_yes h, stepN_l]
    exact h.2.2.2.2.2.2.2.2.1
  · rw [stepB_no h]; simp [bbZ]

set_option maxRecDepth 100000 in
set_option maxHeartbeats 1500000 in
theorem up_any (a : Option Addr) (c : Nat) (l : List Rg) (r f s t : Int) (w : World) (h : RgAt w a l) (hf : flP l) (h0 : 0 < l.length) (hff : 0 ≤ f ∧ f ≤ 1000000000) (hs : 0 ≤ s ∧ s ≤ 2) : Calls Try.prog 24 #[bbV 1 a l.length c r f s t] w fun e w' => e = .returned (ofB (upF l r f s t) a c) ∧ w.grownBy w' none := by
  have hA := Bx.new w 26 (bbC 1 a l.length c r f s t)
  have gA := World.grownBy_alloc w (.cells (bbC 1 a l.length c r f s t) 26) none
  have gR := World.grownBy_alloc (w.alloc (.cells (bbC 1 a l.length c r f s t) 26)) (.cells (#[.int .i64 0, .slice none 0 0, .int .i64 0, .int .i64 0, .int .i64 0, .int .i64 0]) 26) none
  have hR := Bx.new (w.alloc (.cells (bbC 1 a l.length c r f s t) 26)) 26 (#[.int .i64 0, .slice none 0 0, .int .i64 0, .int .i64 0, .int .i64 0, .int .i64 0])
  rw [World.size_alloc] at hR
  have H0 := Lib.hid (And.intro (grownBy_trans gA gR) (And.intro (hA.keep gR) hR))
  clear hA gA gR hR
  have HR := Lib.hid (h.kept H0.out.1)
  have hlen := hf.1
  have hbb := rate_bd l
  have he : bestF l = rateF l := by rw [rate_at hf h0, bestF_yes hf h0]
  rw [← he] at hbb
  unfold upF
  clear h hf h0
  generalize hy : bestF l = y at *
  have HE := Lib.hid hy
  clear hy he
  obtain ⟨hb0, hb1⟩ := hbb
  have hw1 : IntKind.i64.wrap (f.tdiv 4) = f / 4 := by rw [Int.tdiv_eq_ediv_of_nonneg hff.1]; exact wq (by omega)
  have hw2 : IntKind.i64.wrap (f + f / 4) = f + f / 4 := wq (by omega)
  have hw3 : IntKind.i64.wrap (s + 1) = s + 1 := wq (by omega)
  by_cases hc : 0 < y ∧ f + f / 4 ≤ y
  · rw [if_pos hc]
    obtain ⟨hc1, hc2⟩ := hc
    have hc3 : decide (0 < y) = true := decide_eq_true hc1
    have hc4 : decide (f + f / 4 ≤ y) = true := decide_eq_true hc2
    go_enter Try.func24, Try.ntmps24
    go_wp2_with fail
    generalize (w.alloc (.cells (bbC 1 a l.length c r f s t) 26)).alloc (.cells (#[.int .i64 0, .slice none 0 0, .int .i64 0, .int .i64 0, .int .i64 0, .int .i64 0]) 26) = w2 at *
    refine (best_impl _ _ _ _ HR.out (by omega)).mono ?_
    rintro e w3 ⟨rfl, hg⟩
    rw [HE.out]
    have H3 := Lib.hid (And.intro (grownBy_trans H0.out.1 hg) (And.intro (H0.out.2.1.keep hg) (H0.out.2.2.keep hg)))
    clear hg
    have b0 := (H3.out.2.1).c 0 rfl
    have b1 := (H3.out.2.1).c 1 rfl
    have b2 := (H3.out.2.1).c 2 rfl
    have b3 := (H3.out.2.1).c 3 rfl
    have b4 := (H3.out.2.1).c 4 rfl
    have b5 := (H3.out.2.1).c 5 rfl
    have y0 := (H3.out.2.1).f 0
    have y1 := (H3.out.2.1).f 1
    have y2 := (H3.out.2.1).f 2
    have y3 := (H3.out.2.1).f 3
    have y4 := (H3.out.2.1).f 4
    have y5 := (H3.out.2.1).f 5
    have z0 := (H3.out.2.2).c 0 rfl
    have z1 := (H3.out.2.2).c 1 rfl
    have z2 := (H3.out.2.2).c 2 rfl
    have z3 := (H3.out.2.2).c 3 rfl
    have z4 := (H3.out.2.2).c 4 rfl
    have z5 := (H3.out.2.2).c 5 rfl
    have x0 := (H3.out.2.2).f 0
    have x1 := (H3.out.2.2).f 1
    have x2 := (H3.out.2.2).f 2
    have x3 := (H3.out.2.2).f 3
    have x4 := (H3.out.2.2).f 4
    have x5 := (H3.out.2.2).f 5
    go_wp2_with fail
    refine bodyPost_ret (v := bbV 1 a l.length c r y 0 t) ?_ rfl ⟨?_, ?_⟩
    · simp [results, Try.results24, go_sem, z0, z1, z2, z3, z4, z5]
    · rfl
    · repeat (first | with_reducible exact H3.out.1 | with_reducible refine gS ?_ (by omega) _ _)
  · rw [if_neg hc]
    by_cases hs3 : s + 1 = 3
    · rw [if_pos hs3]
      have hs4 : (s + 1 == 3) = true := by simpa using hs3
      have HS3 := Lib.hid hs3
      clear hs3
      by_cases hc1 : 0 < y
      · have hc2 : ¬ f + f / 4 ≤ y := fun k => hc ⟨hc1, k⟩
        have hc3 : decide (0 < y) = true := decide_eq_true hc1
        have hc4 : decide (f + f / 4 ≤ y) = false := decide_eq_false hc2
        clear hc
        go_enter Try.func24, Try.ntmps24
        go_wp2_with fail
        generalize (w.alloc (.cells (bbC 1 a l.length c r f s t) 26)).alloc (.cells (#[.int .i64 0, .slice none 0 0, .int .i64 0, .int .i64 0, .int .i64 0, .int .i64 0]) 26) = w2 at *
        refine (best_impl _ _ _ _ HR.out (by omega)).mono ?_
        rintro e w3 ⟨rfl, hg⟩
        rw [HE.out]
        have H3 := Lib.hid (And.intro (grownBy_trans H0.out.1 hg) (And.intro (H0.out.2.1.keep hg) (H0.out.2.2.keep hg)))
        clear hg
        have b0 := (H3.out.2.1).c 0 rfl
        have b1 := (H3.out.2.1).c 1 rfl
        have b2 := (H3.out.2.1).c 2 rfl
        have b3 := (H3.out.2.1).c 3 rfl
        have b4 := (H3.out.2.1).c 4 rfl
        have b5 := (H3.out.2.1).c 5 rfl
        have y0 := (H3.out.2.1).f 0
        have y1 := (H3.out.2.1).f 1
        have y2 := (H3.out.2.1).f 2
        have y3 := (H3.out.2.1).f 3
        have y4 := (H3.out.2.1).f 4
        have y5 := (H3.out.2.1).f 5
        have z0 := (H3.out.2.2).c 0 rfl
        have z1 := (H3.out.2.2).c 1 rfl
        have z2 := (H3.out.2.2).c 2 rfl
        have z3 := (H3.out.2.2).c 3 rfl
        have z4 := (H3.out.2.2).c 4 rfl
        have z5 := (H3.out.2.2).c 5 rfl
        have x0 := (H3.out.2.2).f 0
        have x1 := (H3.out.2.2).f 1
        have x2 := (H3.out.2.2).f 2
        have x3 := (H3.out.2.2).f 3
        have x4 := (H3.out.2.2).f 4
        have x5 := (H3.out.2.2).f 5
        go_wp2_with fail
        refine bodyPost_ret (v := bbV 2 a l.length c r f (s + 1) t) ?_ rfl ⟨?_, ?_⟩
        · simp [results, Try.results24, go_sem, z0, z1, z2, z3, z4, z5]
        · rfl
        · repeat (first | with_reducible exact H3.out.1 | with_reducible refine gS ?_ (by omega) _ _)
      · have hc3 : decide (0 < y) = false := decide_eq_false hc1
        clear hc
        go_enter Try.func24, Try.ntmps24
        go_wp2_with fail
        generalize (w.alloc (.cells (bbC 1 a l.length c r f s t) 26)).alloc (.cells (#[.int .i64 0, .slice none 0 0, .int .i64 0, .int .i64 0, .int .i64 0, .int .i64 0]) 26) = w2 at *
        refine (best_impl _ _ _ _ HR.out (by omega)).mono ?_
        rintro e w3 ⟨rfl, hg⟩
        rw [HE.out]
        have H3 := Lib.hid (And.intro (grownBy_trans H0.out.1 hg) (And.intro (H0.out.2.1.keep hg) (H0.out.2.2.keep hg)))
        clear hg
        have b0 := (H3.out.2.1).c 0 rfl
        have b1 := (H3.out.2.1).c 1 rfl
        have b2 := (H3.out.2.1).c 2 rfl
        have b3 := (H3.out.2.1).c 3 rfl
        have b4 := (H3.out.2.1).c 4 rfl
        have b5 := (H3.out.2.1).c 5 rfl
        have y0 := (H3.out.2.1).f 0
        have y1 := (H3.out.2.1).f 1
        have y2 := (H3.out.2.1).f 2
        have y3 := (H3.out.2.1).f 3
        have y4 := (H3.out.2.1).f 4
        have y5 := (H3.out.2.1).f 5
        have z0 := (H3.out.2.2).c 0 rfl
        have z1 := (H3.out.2.2).c 1 rfl
        have z2 := (H3.out.2.2).c 2 rfl
        have z3 := (H3.out.2.2).c 3 rfl
        have z4 := (H3.out.2.2).c 4 rfl
        have z5 := (H3.out.2.2).c 5 rfl
        have x0 := (H3.out.2.2).f 0
        have x1 := (H3.out.2.2).f 1
        have x2 := (H3.out.2.2).f 2
        have x3 := (H3.out.2.2).f 3
        have x4 := (H3.out.2.2).f 4
        have x5 := (H3.out.2.2).f 5
        go_wp2_with fail
        refine bodyPost_ret (v := bbV 2 a l.length c r f (s + 1) t) ?_ rfl ⟨?_, ?_⟩
        · simp [results, Try.results24, go_sem, z0, z1, z2, z3, z4, z5]
        · rfl
        · repeat (first | with_reducible exact H3.out.1 | with_reducible refine gS ?_ (by omega) _ _)
    · rw [if_neg hs3]
      have hs4 : (s + 1 == 3) = false := beq_false_of_ne hs3
      clear hs3
      by_cases hc1 : 0 < y
      · have hc2 : ¬ f + f / 4 ≤ y := fun k => hc ⟨hc1, k⟩
        have hc3 : decide (0 < y) = true := decide_eq_true hc1
        have hc4 : decide (f + f / 4 ≤ y) = false := decide_eq_false hc2
        clear hc
        go_enter Try.func24, Try.ntmps24
        go_wp2_with fail
        generalize (w.alloc (.cells (bbC 1 a l.length c r f s t) 26)).alloc (.cells (#[.int .i64 0, .slice none 0 0, .int .i64 0, .int .i64 0, .int .i64 0, .int .i64 0]) 26) = w2 at *
        refine (best_impl _ _ _ _ HR.out (by omega)).mono ?_
        rintro e w3 ⟨rfl, hg⟩
        rw [HE.out]
        have H3 := Lib.hid (And.intro (grownBy_trans H0.out.1 hg) (And.intro (H0.out.2.1.keep hg) (H0.out.2.2.keep hg)))
        clear hg
        have b0 := (H3.out.2.1).c 0 rfl
        have b1 := (H3.out.2.1).c 1 rfl
        have b2 := (H3.out.2.1).c 2 rfl
        have b3 := (H3.out.2.1).c 3 rfl
        have b4 := (H3.out.2.1).c 4 rfl
        have b5 := (H3.out.2.1).c 5 rfl
        have y0 := (H3.out.2.1).f 0
        have y1 := (H3.out.2.1).f 1
        have y2 := (H3.out.2.1).f 2
        have y3 := (H3.out.2.1).f 3
        have y4 := (H3.out.2.1).f 4
        have y5 := (H3.out.2.1).f 5
        have z0 := (H3.out.2.2).c 0 rfl
        have z1 := (H3.out.2.2).c 1 rfl
        have z2 := (H3.out.2.2).c 2 rfl
        have z3 := (H3.out.2.2).c 3 rfl
        have z4 := (H3.out.2.2).c 4 rfl
        have z5 := (H3.out.2.2).c 5 rfl
        have x0 := (H3.out.2.2).f 0
        have x1 := (H3.out.2.2).f 1
        have x2 := (H3.out.2.2).f 2
        have x3 := (H3.out.2.2).f 3
        have x4 := (H3.out.2.2).f 4
        have x5 := (H3.out.2.2).f 5
        go_wp2_with fail
        refine bodyPost_ret (v := bbV 1 a l.length c r f (s + 1) t) ?_ rfl ⟨?_, ?_⟩
        · simp [results, Try.results24, go_sem, z0, z1, z2, z3, z4, z5]
        · rfl
        · repeat (first | with_reducible exact H3.out.1 | with_reducible refine gS ?_ (by omega) _ _)
      · have hc3 : decide (0 < y) = false := decide_eq_false hc1
        clear hc
        go_enter Try.func24, Try.ntmps24
        go_wp2_with fail
        generalize (w.alloc (.cells (bbC 1 a l.length c r f s t) 26)).alloc (.cells (#[.int .i64 0, .slice none 0 0, .int .i64 0, .int .i64 0, .int .i64 0, .int .i64 0]) 26) = w2 at *
        refine (best_impl _ _ _ _ HR.out (by omega)).mono ?_
        rintro e w3 ⟨rfl, hg⟩
        rw [HE.out]
        have H3 := Lib.hid (And.intro (grownBy_trans H0.out.1 hg) (And.intro (H0.out.2.1.keep hg) (H0.out.2.2.keep hg)))
        clear hg
        have b0 := (H3.out.2.1).c 0 rfl
        have b1 := (H3.out.2.1).c 1 rfl
        have b2 := (H3.out.2.1).c 2 rfl
        have b3 := (H3.out.2.1).c 3 rfl
        have b4 := (H3.out.2.1).c 4 rfl
        have b5 := (H3.out.2.1).c 5 rfl
        have y0 := (H3.out.2.1).f 0
        have y1 := (H3.out.2.1).f 1
        have y2 := (H3.out.2.1).f 2
        have y3 := (H3.out.2.1).f 3
        have y4 := (H3.out.2.1).f 4
        have y5 := (H3.out.2.1).f 5
        have z0 := (H3.out.2.2).c 0 rfl
        have z1 := (H3.out.2.2).c 1 rfl
        have z2 := (H3.out.2.2).c 2 rfl
        have z3 := (H3.out.2.2).c 3 rfl
        have z4 := (H3.out.2.2).c 4 rfl
        have z5 := (H3.out.2.2).c 5 rfl
        have x0 := (H3.out.2.2).f 0
        have x1 := (H3.out.2.2).f 1
        have x2 := (H3.out.2.2).f 2
        have x3 := (H3.out.2.2).f 3
        have x4 := (H3.out.2.2).f 4
        have x5 := (H3.out.2.2).f 5
        go_wp2_with fail
        refine bodyPost_ret (v := bbV 1 a l.length c r f (s + 1) t) ?_ rfl ⟨?_, ?_⟩
        · simp [results, Try.results24, go_sem, z0, z1, z2, z3, z4, z5]
        · rfl
        · repeat (first | with_reducible exact H3.out.1 | with_reducible refine gS ?_ (by omega) _ _)

set_option maxRecDepth 100000 in
set_option maxHeartbeats 1500000 in
theorem dr_any (a : Option Addr) (c : Nat) (l : List Rg) (r f s t fl : Int) (w : World) (h : RgAt w a l) (hf : flP l) (hr : 1 ≤ r ∧ r ≤ 60000) : Calls Try.prog 25 #[bbV 2 a l.length c r f s t, .int .i64 fl] w fun e w' => e = .returned (ofB (drF l r f s t fl) a c) ∧ w.grownBy w' none := by
  have hA := Bx.new w 26 (bbC 2 a l.length c r f s t)
  have gA := World.grownBy_alloc w (.cells (bbC 2 a l.length c r f s t) 26) none
  have gR := World.grownBy_alloc (w.alloc (.cells (bbC 2 a l.length c r f s t) 26)) (.cells (#[.int .i64 0, .slice none 0 0, .int .i64 0, .int .i64 0, .int .i64 0, .int .i64 0]) 26) none
  have hR := Bx.new (w.alloc (.cells (bbC 2 a l.length c r f s t) 26)) 26 (#[.int .i64 0, .slice none 0 0, .int .i64 0, .int .i64 0, .int .i64 0, .int .i64 0])
  rw [World.size_alloc] at hR
  have H0 := Lib.hid (And.intro (grownBy_trans gA gR) (And.intro (hA.keep gR) hR))
  clear hA gA gR hR
  have HR := Lib.hid (h.kept H0.out.1)
  unfold drF
  by_cases hc : fl ≤ pipeF l r
  · rw [if_pos hc]
    go_enter Try.func25, Try.ntmps25
    go_wp2_with fail
    generalize (w.alloc (.cells (bbC 2 a l.length c r f s t) 26)).alloc (.cells (#[.int .i64 0, .slice none 0 0, .int .i64 0, .int .i64 0, .int .i64 0, .int .i64 0]) 26) = w2 at *
    refine (pipe_impl _ _ _ _ _ _ _ _ _ HR.out hf hr).mono ?_
    rintro e w3 ⟨rfl, hg⟩
    have H3 := Lib.hid (And.intro (grownBy_trans H0.out.1 hg) (And.intro (H0.out.2.1.keep hg) (H0.out.2.2.keep hg)))
    clear hg
    have b0 := (H3.out.2.1).c 0 rfl
    have b1 := (H3.out.2.1).c 1 rfl
    have b2 := (H3.out.2.1).c 2 rfl
    have b3 := (H3.out.2.1).c 3 rfl
    have b4 := (H3.out.2.1).c 4 rfl
    have b5 := (H3.out.2.1).c 5 rfl
    have y0 := (H3.out.2.1).f 0
    have y1 := (H3.out.2.1).f 1
    have y2 := (H3.out.2.1).f 2
    have y3 := (H3.out.2.1).f 3
    have y4 := (H3.out.2.1).f 4
    have y5 := (H3.out.2.1).f 5
    have z0 := (H3.out.2.2).c 0 rfl
    have z1 := (H3.out.2.2).c 1 rfl
    have z2 := (H3.out.2.2).c 2 rfl
    have z3 := (H3.out.2.2).c 3 rfl
    have z4 := (H3.out.2.2).c 4 rfl
    have z5 := (H3.out.2.2).c 5 rfl
    have x0 := (H3.out.2.2).f 0
    have x1 := (H3.out.2.2).f 1
    have x2 := (H3.out.2.2).f 2
    have x3 := (H3.out.2.2).f 3
    have x4 := (H3.out.2.2).f 4
    have x5 := (H3.out.2.2).f 5
    generalize pipeF l r = Y at *
    go_wp2_with fail
    refine bodyPost_ret (v := bbV 3 a l.length c r f s t) ?_ rfl ⟨?_, ?_⟩
    · simp [results, Try.results25, go_sem, z0, z1, z2, z3, z4, z5]
    · rfl
    · repeat (first | with_reducible exact H3.out.1 | with_reducible refine gS ?_ (by omega) _ _)
  · rw [if_neg hc]
    go_enter Try.func25, Try.ntmps25
    go_wp2_with fail
    generalize (w.alloc (.cells (bbC 2 a l.length c r f s t) 26)).alloc (.cells (#[.int .i64 0, .slice none 0 0, .int .i64 0, .int .i64 0, .int .i64 0, .int .i64 0]) 26) = w2 at *
    refine (pipe_impl _ _ _ _ _ _ _ _ _ HR.out hf hr).mono ?_
    rintro e w3 ⟨rfl, hg⟩
    have H3 := Lib.hid (And.intro (grownBy_trans H0.out.1 hg) (And.intro (H0.out.2.1.keep hg) (H0.out.2.2.keep hg)))
    clear hg
    have b0 := (H3.out.2.1).c 0 rfl
    have b1 := (H3.out.2.1).c 1 rfl
    have b2 := (H3.out.2.1).c 2 rfl
    have b3 := (H3.out.2.1).c 3 rfl
    have b4 := (H3.out.2.1).c 4 rfl
    have b5 := (H3.out.2.1).c 5 rfl
    have y0 := (H3.out.2.1).f 0
    have y1 := (H3.out.2.1).f 1
    have y2 := (H3.out.2.1).f 2
    have y3 := (H3.out.2.1).f 3
    have y4 := (H3.out.2.1).f 4
    have y5 := (H3.out.2.1).f 5
    have z0 := (H3.out.2.2).c 0 rfl
    have z1 := (H3.out.2.2).c 1 rfl
    have z2 := (H3.out.2.2).c 2 rfl
    have z3 := (H3.out.2.2).c 3 rfl
    have z4 := (H3.out.2.2).c 4 rfl
    have z5 := (H3.out.2.2).c 5 rfl
    have x0 := (H3.out.2.2).f 0
    have x1 := (H3.out.2.2).f 1
    have x2 := (H3.out.2.2).f 2
    have x3 := (H3.out.2.2).f 3
    have x4 := (H3.out.2.2).f 4
    have x5 := (H3.out.2.2).f 5
    generalize pipeF l r = Y at *
    go_wp2_with fail
    refine bodyPost_ret (v := bbV 2 a l.length c r f s t) ?_ rfl ⟨?_, ?_⟩
    · simp [results, Try.results25, go_sem, z0, z1, z2, z3, z4, z5]
    · rfl
    · repeat (first | with_reducible exact H3.out.1 | with_reducible refine gS ?_ (by omega) _ _)

set_option maxRecDepth 100000 in
set_option maxHeartbeats 1500000 in
theorem pr_any (a : Option Addr) (c : Nat) (l : List Rg) (r f s t : Int) (w : World) (ht : 0 ≤ t ∧ t ≤ 7) : Calls Try.prog 26 #[bbV 3 a l.length c r f s t] w fun e w' => e = .returned (ofB (prF l r f s t) a c) ∧ w.grownBy w' none := by
  have hA := Bx.new w 26 (bbC 3 a l.length c r f s t)
  have gA := World.grownBy_alloc w (.cells (bbC 3 a l.length c r f s t) 26) none
  have gR := World.grownBy_alloc (w.alloc (.cells (bbC 3 a l.length c r f s t) 26)) (.cells (#[.int .i64 0, .slice none 0 0, .int .i64 0, .int .i64 0, .int .i64 0, .int .i64 0]) 26) none
  have hR := Bx.new (w.alloc (.cells (bbC 3 a l.length c r f s t) 26)) 26 (#[.int .i64 0, .slice none 0 0, .int .i64 0, .int .i64 0, .int .i64 0, .int .i64 0])
  rw [World.size_alloc] at hR
  have H0 := Lib.hid (And.intro (grownBy_trans gA gR) (And.intro (hA.keep gR) hR))
  clear hA gA gR hR
  unfold prF
  have hw1 : IntKind.i64.wrap (t + 1) = t + 1 := wq (by omega)
  have hw2 : IntKind.i64.wrap ((t + 1).tmod 8) = (t + 1) % 8 := by rw [Int.tmod_eq_emod_of_nonneg (by omega)]; exact wq (by omega)
  go_enter Try.func26, Try.ntmps26
  go_wp2_with fail
  refine bodyPost_ret (v := bbV 3 a l.length c r f s ((t + 1) % 8)) ?_ rfl ⟨rfl, grownBy_trans (World.grownBy_alloc _ _ _) (World.grownBy_alloc _ _ _)⟩
  simp [results, Try.results26, go_sem]

/-- What a step has ahead of it: the state's box, the sample's, the result's. -/
structure St3 (w : World) (xs : Array Value) (tx rx : Int) (W : World) : Prop where
  g : w.grownBy W none
  b : Bx W w.heap.size 26 xs
  x : Bx W (w.heap.size + 1) 28 #[.int .i64 tx, .int .i64 rx]
  r : Bx W (w.heap.size + 1 + 1) 26 (#[.int .i64 0, .slice none 0 0, .int .i64 0, .int .i64 0, .int .i64 0, .int .i64 0])
theorem St3.keep {w W W' : World} {xs : Array Value} {tx rx : Int} (h : St3 w xs tx rx W) (hg : W.grownBy W' none) : St3 w xs tx rx W' := ⟨grownBy_trans h.g hg, h.b.keep hg, h.x.keep hg, h.r.keep hg⟩
theorem st3_new (w : World) (xs : Array Value) (tx rx : Int) : St3 w xs tx rx (((w.alloc (.cells xs 26)).alloc (.cells #[.int .i64 tx, .int .i64 rx] 28)).alloc (.cells (#[.int .i64 0, .slice none 0 0, .int .i64 0, .int .i64 0, .int .i64 0, .int .i64 0]) 26)) := by
  have h1 := Bx.new w 26 xs
  have g1 := World.grownBy_alloc w (.cells xs 26) none
  have e1 : (w.alloc (.cells xs 26)).heap.size = w.heap.size + 1 := by simp
  generalize w.alloc (.cells xs 26) = w1 at *
  have h2 := Bx.new w1 28 #[.int .i64 tx, .int .i64 rx]
  have g2 := World.grownBy_alloc w1 (.cells #[.int .i64 tx, .int .i64 rx] 28) none
  have e2 : (w1.alloc (.cells #[.int .i64 tx, .int .i64 rx] 28)).heap.size = w.heap.size + 1 + 1 := by rw [← e1]; simp
  generalize w1.alloc (.cells #[.int .i64 tx, .int .i64 rx] 28) = w2 at *
  have h3 := Bx.new w2 26 (#[.int .i64 0, .slice none 0 0, .int .i64 0, .int .i64 0, .int .i64 0, .int .i64 0])
  have g3 := World.grownBy_alloc w2 (.cells (#[.int .i64 0, .slice none 0 0, .int .i64 0, .int .i64 0, .int .i64 0, .int .i64 0]) 26) none
  rw [e1] at h2
  rw [e2] at h3
  exact ⟨grownBy_trans g1 (grownBy_trans g2 g3), h1.keep (grownBy_trans g2 g3), h2.keep g3, h3⟩

set_option maxRecDepth 100000 in
set_option maxHeartbeats 6000000 in
theorem step_impl (p : Int) (a : Option Addr) (c : Nat) (l : List Rg) (r f s t tx rx q fl : Int) (w : World) (h : RgAt w a l) (hl0 : l.length ≤ 1048576) : Calls Try.prog 7 #[bbV p a l.length c r f s t, .agg #[.int .i64 tx, .int .i64 rx], .int .i64 q, .int .i64 fl] w (BsPost w (stepB (⟨p, l, r, f, s, t⟩ : Bb) (tx, rx) q fl) (stepOk (⟨p, l, r, f, s, t⟩ : Bb) (tx, rx) q fl)) := by
  have H3 := Lib.hid (st3_new w (bbC p a l.length c r f s t) tx rx)
  have HR := Lib.hid (h.kept H3.out.g)
  clear h
  cases hok : bbOk p l r f s t
  · have HOK := Lib.hid hok
    have HNO := Lib.hid (show ¬ stepP (⟨p, l, r, f, s, t⟩ : Bb) (tx, rx) q fl from fun h => by have := h.1; rw [hok] at this; cases this)
    clear hok
    go_enter Try.func7, Try.ntmps7
    go_wp2_with fail
    generalize (((w.alloc (.cells (bbC p a l.length c r f s t) 26)).alloc (.cells #[.int .i64 tx, .int .i64 rx] 28)).alloc (.cells (#[.int .i64 0, .slice none 0 0, .int .i64 0, .int .i64 0, .int .i64 0, .int .i64 0]) 26)) = w3 at *
    refine (bb_ok_impl _ _ _ _ _ _ _ _ _ HR.out (by omega)).mono ?_
    rintro e w4 ⟨rfl, hg⟩
    rw [HOK.out]
    have H4 := Lib.hid (H3.out.keep hg)
    have HR4 := Lib.hid (HR.out.kept hg)
    clear hg
    have b0 := (H4.out.b).c 0 rfl
    have b1 := (H4.out.b).c 1 rfl
    have b2 := (H4.out.b).c 2 rfl
    have b3 := (H4.out.b).c 3 rfl
    have b4 := (H4.out.b).c 4 rfl
    have b5 := (H4.out.b).c 5 rfl
    have x0 := H4.out.x.c 0 rfl
    have x1 := H4.out.x.c 1 rfl
    have z0 := (H4.out.r).c 0 rfl
    have z1 := (H4.out.r).c 1 rfl
    have z2 := (H4.out.r).c 2 rfl
    have z3 := (H4.out.r).c 3 rfl
    have z4 := (H4.out.r).c 4 rfl
    have z5 := (H4.out.r).c 5 rfl
    have zf0 := (H4.out.r).f 0
    have zf1 := (H4.out.r).f 1
    have zf2 := (H4.out.r).f 2
    have zf3 := (H4.out.r).f 3
    have zf4 := (H4.out.r).f 4
    have zf5 := (H4.out.r).f 5
    go_wp2_with fail
    refine bodyPost_ret (v := .tuple #[bbV 0 none 0 0 0 0 0 0, .bool false]) ?_ rfl (bs_no HNO.out ?_)
    · simp [results, Try.results7, go_sem, z0, z1, z2, z3, z4, z5]
    · repeat (first | with_reducible exact H4.out.g | with_reducible refine gS ?_ (by omega) _ _)
  · have HOK := Lib.hid hok
    obtain ⟨hlp, hr2, hf2, hph⟩ := bb_of hok
    have hln := hlp.1
    have hw10 : IntKind.i64.wrap (10 * r) = 10 * r := wq (by omega)
    clear hok hlp
    cases hq : inB q 1 60000
    · have HQ := Lib.hid hq
      have HNO := Lib.hid (show ¬ stepP (⟨p, l, r, f, s, t⟩ : Bb) (tx, rx) q fl from fun h => by have := h.2.1; rw [hq] at this; cases this)
      clear hq hph
      go_enter Try.func7, Try.ntmps7
      go_wp2_with fail
      generalize (((w.alloc (.cells (bbC p a l.length c r f s t) 26)).alloc (.cells #[.int .i64 tx, .int .i64 rx] 28)).alloc (.cells (#[.int .i64 0, .slice none 0 0, .int .i64 0, .int .i64 0, .int .i64 0, .int .i64 0]) 26)) = w3 at *
      refine (bb_ok_impl _ _ _ _ _ _ _ _ _ HR.out (by omega)).mono ?_
      rintro e w4 ⟨rfl, hg⟩
      rw [HOK.out]
      have H4 := Lib.hid (H3.out.keep hg)
      have HR4 := Lib.hid (HR.out.kept hg)
      clear hg
      have b0 := (H4.out.b).c 0 rfl
      have b1 := (H4.out.b).c 1 rfl
      have b2 := (H4.out.b).c 2 rfl
      have b3 := (H4.out.b).c 3 rfl
      have b4 := (H4.out.b).c 4 rfl
      have b5 := (H4.out.b).c 5 rfl
      have x0 := H4.out.x.c 0 rfl
      have x1 := H4.out.x.c 1 rfl
      have z0 := (H4.out.r).c 0 rfl
      have z1 := (H4.out.r).c 1 rfl
      have z2 := (H4.out.r).c 2 rfl
      have z3 := (H4.out.r).c 3 rfl
      have z4 := (H4.out.r).c 4 rfl
      have z5 := (H4.out.r).c 5 rfl
      have zf0 := (H4.out.r).f 0
      have zf1 := (H4.out.r).f 1
      have zf2 := (H4.out.r).f 2
      have zf3 := (H4.out.r).f 3
      have zf4 := (H4.out.r).f 4
      have zf5 := (H4.out.r).f 5
      go_wp2_with (go_at_call 21; refine (trip_any _ _).mono ?_; rintro e w' ⟨rfl, rfl⟩; rw [HQ.out])
      refine bodyPost_ret (v := .tuple #[bbV 0 none 0 0 0 0 0 0, .bool false]) ?_ rfl (bs_no HNO.out ?_)
      · simp [results, Try.results7, go_sem, z0, z1, z2, z3, z4, z5]
      · repeat (first | with_reducible exact H4.out.g | with_reducible refine gS ?_ (by omega) _ _)
    · have HQ := Lib.hid hq
      have hq2 := in_of hq
      cases hfl : inB fl 0 1000000000
      · have HF := Lib.hid hfl
        have HNO := Lib.hid (show ¬ stepP (⟨p, l, r, f, s, t⟩ : Bb) (tx, rx) q fl from fun h => by have := h.2.2.1; rw [hfl] at this; cases this)
        clear hq hfl hph
        go_enter Try.func7, Try.ntmps7
        go_wp2_with fail
        generalize (((w.alloc (.cells (bbC p a l.length c r f s t) 26)).alloc (.cells #[.int .i64 tx, .int .i64 rx] 28)).alloc (.cells (#[.int .i64 0, .slice none 0 0, .int .i64 0, .int .i64 0, .int .i64 0, .int .i64 0]) 26)) = w3 at *
        refine (bb_ok_impl _ _ _ _ _ _ _ _ _ HR.out (by omega)).mono ?_
        rintro e w4 ⟨rfl, hg⟩
        rw [HOK.out]
        have H4 := Lib.hid (H3.out.keep hg)
        have HR4 := Lib.hid (HR.out.kept hg)
        clear hg
        have b0 := (H4.out.b).c 0 rfl
        have b1 := (H4.out.b).c 1 rfl
        have b2 := (H4.out.b).c 2 rfl
        have b3 := (H4.out.b).c 3 rfl
        have b4 := (H4.out.b).c 4 rfl
        have b5 := (H4.out.b).c 5 rfl
        have x0 := H4.out.x.c 0 rfl
        have x1 := H4.out.x.c 1 rfl
        have z0 := (H4.out.r).c 0 rfl
        have z1 := (H4.out.r).c 1 rfl
        have z2 := (H4.out.r).c 2 rfl
        have z3 := (H4.out.r).c 3 rfl
        have z4 := (H4.out.r).c 4 rfl
        have z5 := (H4.out.r).c 5 rfl
        have zf0 := (H4.out.r).f 0
        have zf1 := (H4.out.r).f 1
        have zf2 := (H4.out.r).f 2
        have zf3 := (H4.out.r).f 3
        have zf4 := (H4.out.r).f 4
        have zf5 := (H4.out.r).f 5
        go_wp2_with (first | (go_at_call 21; refine (trip_any _ _).mono ?_; rintro e w' ⟨rfl, rfl⟩; rw [HQ.out]) | (go_at_call 22; refine (upto_any _ _).mono ?_; rintro e w' ⟨rfl, rfl⟩; rw [HF.out]))
        refine bodyPost_ret (v := .tuple #[bbV 0 none 0 0 0 0 0 0, .bool false]) ?_ rfl (bs_no HNO.out ?_)
        · simp [results, Try.results7, go_sem, z0, z1, z2, z3, z4, z5]
        · repeat (first | with_reducible exact H4.out.g | with_reducible refine gS ?_ (by omega) _ _)
      · have HF := Lib.hid hfl
        cases hao : addOk l (tx, rx) (10 * r)
        · have HAO := Lib.hid hao
          have HNO := Lib.hid (show ¬ stepP (⟨p, l, r, f, s, t⟩ : Bb) (tx, rx) q fl from fun h => by have := addOk_yes h.2.2.2; rw [hao] at this; cases this)
          clear hq hfl hph hao
          go_enter Try.func7, Try.ntmps7
          go_wp2_with fail
          generalize (((w.alloc (.cells (bbC p a l.length c r f s t) 26)).alloc (.cells #[.int .i64 tx, .int .i64 rx] 28)).alloc (.cells (#[.int .i64 0, .slice none 0 0, .int .i64 0, .int .i64 0, .int .i64 0, .int .i64 0]) 26)) = w3 at *
          refine (bb_ok_impl _ _ _ _ _ _ _ _ _ HR.out (by omega)).mono ?_
          rintro e w4 ⟨rfl, hg⟩
          rw [HOK.out]
          have H4 := Lib.hid (H3.out.keep hg)
          have HR4 := Lib.hid (HR.out.kept hg)
          clear hg
          have b0 := (H4.out.b).c 0 rfl
          have b1 := (H4.out.b).c 1 rfl
          have b2 := (H4.out.b).c 2 rfl
          have b3 := (H4.out.b).c 3 rfl
          have b4 := (H4.out.b).c 4 rfl
          have b5 := (H4.out.b).c 5 rfl
          have x0 := H4.out.x.c 0 rfl
          have x1 := H4.out.x.c 1 rfl
          have z0 := (H4.out.r).c 0 rfl
          have z1 := (H4.out.r).c 1 rfl
          have z2 := (H4.out.r).c 2 rfl
          have z3 := (H4.out.r).c 3 rfl
          have z4 := (H4.out.r).c 4 rfl
          have z5 := (H4.out.r).c 5 rfl
          have zf0 := (H4.out.r).f 0
          have zf1 := (H4.out.r).f 1
          have zf2 := (H4.out.r).f 2
          have zf3 := (H4.out.r).f 3
          have zf4 := (H4.out.r).f 4
          have zf5 := (H4.out.r).f 5
          go_wp2_with (first | (go_at_call 21; refine (trip_any _ _).mono ?_; rintro e w' ⟨rfl, rfl⟩; rw [HQ.out]) | (go_at_call 22; refine (upto_any _ _).mono ?_; rintro e w' ⟨rfl, rfl⟩; rw [HF.out]))
          refine (add_impl _ _ _ _ _ _ _ HR4.out (by omega)).mono ?_
          rintro e w5 ⟨a5, c5, rfl, hg, ho⟩
          rw [HAO.out]
          have H5 := Lib.hid (H4.out.keep hg)
          clear hg ho z0 z1 z2 z3 z4 z5 zf0 zf1 zf2 zf3 zf4 zf5
          have z0 := (H5.out.r).c 0 rfl
          have z1 := (H5.out.r).c 1 rfl
          have z2 := (H5.out.r).c 2 rfl
          have z3 := (H5.out.r).c 3 rfl
          have z4 := (H5.out.r).c 4 rfl
          have z5 := (H5.out.r).c 5 rfl
          have zf0 := (H5.out.r).f 0
          have zf1 := (H5.out.r).f 1
          have zf2 := (H5.out.r).f 2
          have zf3 := (H5.out.r).f 3
          have zf4 := (H5.out.r).f 4
          have zf5 := (H5.out.r).f 5
          go_wp2_with fail
          refine bodyPost_ret (v := .tuple #[bbV 0 none 0 0 0 0 0 0, .bool false]) ?_ rfl (bs_no HNO.out ?_)
          · simp [results, Try.results7, go_sem, z0, z1, z2, z3, z4, z5]
          · repeat (first | with_reducible exact H5.out.g | with_reducible refine gS ?_ (by omega) _ _)
        · have HAO := Lib.hid hao
          have haP := addOk_of hao
          have HYES := Lib.hid (show stepP (⟨p, l, r, f, s, t⟩ : Bb) (tx, rx) q fl from ⟨HOK.out, hq, hfl, haP⟩)
          have HAL := Lib.hid (addL_yes haP)
          have HLP := Lib.hid (show flP (addF l (tx, rx) (10 * r)) ∧ 0 < (addF l (tx, rx) (10 * r)).length from ⟨haP.2.2.2.2.2, by simp [addF]⟩)
          clear hq hfl hao haP
          rcases hph with ⟨rfl, hs1, hs2, ht1⟩ | ⟨rfl, hs1, hl1, ht1⟩ | ⟨rfl, hs1, hl1, ht1, ht2⟩
          · clear ht1
            have hmm : r < q ∨ r = q ∨ q < r := by omega
            rcases hmm with hm | hm | hm
            · have hm2 : ¬ q < r := by omega
              have hm3 : ¬ q ≤ r := by omega
              have hm5 : r ≤ q := by omega
              have hm4 : min r q = r := by omega
              have HMN := Lib.hid (show mnI r q = r from if_pos hm)
              have hR2 : 1 ≤ r ∧ r ≤ 60000 := by omega
              have HUU := Lib.hid (show stepN (⟨1, l, r, f, s, t⟩ : Bb) (tx, rx) q fl = upF (addF l (tx, rx) (10 * r)) r f s t by simp [stepN, HMN.out])
              go_enter Try.func7, Try.ntmps7
              go_wp2_with fail
              generalize (((w.alloc (.cells (bbC 1 a l.length c r f s t) 26)).alloc (.cells #[.int .i64 tx, .int .i64 rx] 28)).alloc (.cells (#[.int .i64 0, .slice none 0 0, .int .i64 0, .int .i64 0, .int .i64 0, .int .i64 0]) 26)) = w3 at *
              refine (bb_ok_impl _ _ _ _ _ _ _ _ _ HR.out (by omega)).mono ?_
              rintro e w4 ⟨rfl, hg⟩
              rw [HOK.out]
              have H4 := Lib.hid (H3.out.keep hg)
              have HR4 := Lib.hid (HR.out.kept hg)
              clear hg
              have b0 := (H4.out.b).c 0 rfl
              have b1 := (H4.out.b).c 1 rfl
              have b2 := (H4.out.b).c 2 rfl
              have b3 := (H4.out.b).c 3 rfl
              have b4 := (H4.out.b).c 4 rfl
              have b5 := (H4.out.b).c 5 rfl
              have x0 := H4.out.x.c 0 rfl
              have x1 := H4.out.x.c 1 rfl
              have z0 := (H4.out.r).c 0 rfl
              have z1 := (H4.out.r).c 1 rfl
              have z2 := (H4.out.r).c 2 rfl
              have z3 := (H4.out.r).c 3 rfl
              have z4 := (H4.out.r).c 4 rfl
              have z5 := (H4.out.r).c 5 rfl
              have zf0 := (H4.out.r).f 0
              have zf1 := (H4.out.r).f 1
              have zf2 := (H4.out.r).f 2
              have zf3 := (H4.out.r).f 3
              have zf4 := (H4.out.r).f 4
              have zf5 := (H4.out.r).f 5
              go_wp2_with (first | (go_at_call 21; refine (trip_any _ _).mono ?_; rintro e w' ⟨rfl, rfl⟩; rw [HQ.out]) | (go_at_call 22; refine (upto_any _ _).mono ?_; rintro e w' ⟨rfl, rfl⟩; rw [HF.out]))
              refine (add_impl _ _ _ _ _ _ _ HR4.out (by omega)).mono ?_
              rintro e w5 ⟨a5, c5, rfl, hg, ho⟩
              rw [HAO.out]
              rw [HAL.out] at ho ⊢
              have hs5 := hg.size
              have hlt5 := H4.out.r.lt
              have H5 := Lib.hid (And.intro (H4.out.keep hg) (own_base ho (show w.heap.size + 1 + 1 + 1 ≤ w4.heap.size by omega)))
              clear hg ho b0 b1 b2 b3 b4 b5 x0 x1 z0 z1 z2 z3 z4 z5 zf0 zf1 zf2 zf3 zf4 zf5
              generalize addF l (tx, rx) (10 * r) = L at *
              have b0 := (H5.out.1.b).c 0 rfl
              have b1 := (H5.out.1.b).c 1 rfl
              have b2 := (H5.out.1.b).c 2 rfl
              have b3 := (H5.out.1.b).c 3 rfl
              have b4 := (H5.out.1.b).c 4 rfl
              have b5 := (H5.out.1.b).c 5 rfl
              have bf0 := (H5.out.1.b).f 0
              have bf1 := (H5.out.1.b).f 1
              have bf2 := (H5.out.1.b).f 2
              have bf3 := (H5.out.1.b).f 3
              have bf4 := (H5.out.1.b).f 4
              have bf5 := (H5.out.1.b).f 5
              have H6 := Lib.hid (show St3 w (bbC 1 a5 L.length c5 r f s t) tx rx ((w5.setCell ⟨w.heap.size, 1, none⟩ (.slice a5 L.length c5)).setCell ⟨w.heap.size, 2, none⟩ (.int .i64 r)) from ⟨gS (gS H5.out.1.g (Nat.le_refl _) 1 _) (Nat.le_refl _) 2 _, (show Bx _ _ _ (bbC 1 a5 L.length c5 r f s t) from H5.out.1.b.s 1 (.slice a5 L.length c5)).s 2 (.int .i64 r), (H5.out.1.x.other (by omega) 1 _).other (by omega) 2 _, (H5.out.1.r.other (by omega) 1 _).other (by omega) 2 _⟩)
              have HO6 := Lib.hid (own_setB (own_setB (v := .slice a5 L.length c5) (D := w.heap.size) (o := 1) H5.out.2 (by omega)) (v := .int .i64 r) (D := w.heap.size) (o := 2) (by omega))
              go_wp2_with fail
              generalize (w5.setCell ⟨w.heap.size, 1, none⟩ (.slice a5 L.length c5)).setCell ⟨w.heap.size, 2, none⟩ (.int .i64 r) = w6 at *
              have H7 := Lib.hid (And.intro H6.out (And.intro HO6.out (rg_own HO6.out)))
              clear b0 b1 b2 b3 b4 b5 bf0 bf1 bf2 bf3 bf4 bf5
              refine (up_any _ _ _ _ _ _ _ _ H7.out.2.2 HLP.out.1 HLP.out.2 hf2 (by omega)).mono ?_
              rintro e w8 ⟨rfl, hg⟩
              have H8 := Lib.hid (And.intro (H7.out.1.keep hg) (own_kept H7.out.2.1 hg))
              clear hg
              have HU := Lib.hid (HUU.out)
              generalize hu : upF L r f s t = u at *
              have HL := Lib.hid (show u.l = L by rw [← hu]; unfold upF; split <;> rfl)
              obtain ⟨up, ul, ur, uf, us, ut⟩ := u
              clear hu
              have hul : ul = L := HL.out
              subst hul
              have z0 := (H8.out.1.r).c 0 rfl
              have z1 := (H8.out.1.r).c 1 rfl
              have z2 := (H8.out.1.r).c 2 rfl
              have z3 := (H8.out.1.r).c 3 rfl
              have z4 := (H8.out.1.r).c 4 rfl
              have z5 := (H8.out.1.r).c 5 rfl
              have zf0 := (H8.out.1.r).f 0
              have zf1 := (H8.out.1.r).f 1
              have zf2 := (H8.out.1.r).f 2
              have zf3 := (H8.out.1.r).f 3
              have zf4 := (H8.out.1.r).f 4
              have zf5 := (H8.out.1.r).f 5
              go_wp2_with fail
              refine bodyPost_ret (v := .tuple #[bbV up a5 ul.length c5 ur uf us ut, .bool true]) ?_ rfl (bs_yes HYES.out HU.out ?_ ?_ (show w.heap.size ≤ w.heap.size + 1 + 1 + 1 by omega))
              · simp [results, Try.results7, go_sem, z0, z1, z2, z3, z4, z5]
              · repeat (first | with_reducible exact H8.out.1.g | with_reducible refine gS ?_ (by omega) _ _)
              · repeat (first | with_reducible exact H8.out.2 | with_reducible refine own_setB ?_ (by omega))
            · subst hm
              have HMN := Lib.hid (show mnI r r = r by unfold mnI; split <;> rfl)
              have hR2 : 1 ≤ r ∧ r ≤ 60000 := by omega
              have HUU := Lib.hid (show stepN (⟨1, l, r, f, s, t⟩ : Bb) (tx, rx) r fl = upF (addF l (tx, rx) (10 * r)) r f s t by simp [stepN, HMN.out])
              go_enter Try.func7, Try.ntmps7
              go_wp2_with fail
              generalize (((w.alloc (.cells (bbC 1 a l.length c r f s t) 26)).alloc (.cells #[.int .i64 tx, .int .i64 rx] 28)).alloc (.cells (#[.int .i64 0, .slice none 0 0, .int .i64 0, .int .i64 0, .int .i64 0, .int .i64 0]) 26)) = w3 at *
              refine (bb_ok_impl _ _ _ _ _ _ _ _ _ HR.out (by omega)).mono ?_
              rintro e w4 ⟨rfl, hg⟩
              rw [HOK.out]
              have H4 := Lib.hid (H3.out.keep hg)
              have HR4 := Lib.hid (HR.out.kept hg)
              clear hg
              have b0 := (H4.out.b).c 0 rfl
              have b1 := (H4.out.b).c 1 rfl
              have b2 := (H4.out.b).c 2 rfl
              have b3 := (H4.out.b).c 3 rfl
              have b4 := (H4.out.b).c 4 rfl
              have b5 := (H4.out.b).c 5 rfl
              have x0 := H4.out.x.c 0 rfl
              have x1 := H4.out.x.c 1 rfl
              have z0 := (H4.out.r).c 0 rfl
              have z1 := (H4.out.r).c 1 rfl
              have z2 := (H4.out.r).c 2 rfl
              have z3 := (H4.out.r).c 3 rfl
              have z4 := (H4.out.r).c 4 rfl
              have z5 := (H4.out.r).c 5 rfl
              have zf0 := (H4.out.r).f 0
              have zf1 := (H4.out.r).f 1
              have zf2 := (H4.out.r).f 2
              have zf3 := (H4.out.r).f 3
              have zf4 := (H4.out.r).f 4
              have zf5 := (H4.out.r).f 5
              go_wp2_with (first | (go_at_call 21; refine (trip_any _ _).mono ?_; rintro e w' ⟨rfl, rfl⟩; rw [HQ.out]) | (go_at_call 22; refine (upto_any _ _).mono ?_; rintro e w' ⟨rfl, rfl⟩; rw [HF.out]))
              refine (add_impl _ _ _ _ _ _ _ HR4.out (by omega)).mono ?_
              rintro e w5 ⟨a5, c5, rfl, hg, ho⟩
              rw [HAO.out]
              rw [HAL.out] at ho ⊢
              have hs5 := hg.size
              have hlt5 := H4.out.r.lt
              have H5 := Lib.hid (And.intro (H4.out.keep hg) (own_base ho (show w.heap.size + 1 + 1 + 1 ≤ w4.heap.size by omega)))
              clear hg ho b0 b1 b2 b3 b4 b5 x0 x1 z0 z1 z2 z3 z4 z5 zf0 zf1 zf2 zf3 zf4 zf5
              generalize addF l (tx, rx) (10 * r) = L at *
              have b0 := (H5.out.1.b).c 0 rfl
              have b1 := (H5.out.1.b).c 1 rfl
              have b2 := (H5.out.1.b).c 2 rfl
              have b3 := (H5.out.1.b).c 3 rfl
              have b4 := (H5.out.1.b).c 4 rfl
              have b5 := (H5.out.1.b).c 5 rfl
              have bf0 := (H5.out.1.b).f 0
              have bf1 := (H5.out.1.b).f 1
              have bf2 := (H5.out.1.b).f 2
              have bf3 := (H5.out.1.b).f 3
              have bf4 := (H5.out.1.b).f 4
              have bf5 := (H5.out.1.b).f 5
              have H6 := Lib.hid (show St3 w (bbC 1 a5 L.length c5 r f s t) tx rx ((w5.setCell ⟨w.heap.size, 1, none⟩ (.slice a5 L.length c5)).setCell ⟨w.heap.size, 2, none⟩ (.int .i64 r)) from ⟨gS (gS H5.out.1.g (Nat.le_refl _) 1 _) (Nat.le_refl _) 2 _, (show Bx _ _ _ (bbC 1 a5 L.length c5 r f s t) from H5.out.1.b.s 1 (.slice a5 L.length c5)).s 2 (.int .i64 r), (H5.out.1.x.other (by omega) 1 _).other (by omega) 2 _, (H5.out.1.r.other (by omega) 1 _).other (by omega) 2 _⟩)
              have HO6 := Lib.hid (own_setB (own_setB (v := .slice a5 L.length c5) (D := w.heap.size) (o := 1) H5.out.2 (by omega)) (v := .int .i64 r) (D := w.heap.size) (o := 2) (by omega))
              go_wp2_with fail
              generalize (w5.setCell ⟨w.heap.size, 1, none⟩ (.slice a5 L.length c5)).setCell ⟨w.heap.size, 2, none⟩ (.int .i64 r) = w6 at *
              have H7 := Lib.hid (And.intro H6.out (And.intro HO6.out (rg_own HO6.out)))
              clear b0 b1 b2 b3 b4 b5 bf0 bf1 bf2 bf3 bf4 bf5
              refine (up_any _ _ _ _ _ _ _ _ H7.out.2.2 HLP.out.1 HLP.out.2 hf2 (by omega)).mono ?_
              rintro e w8 ⟨rfl, hg⟩
              have H8 := Lib.hid (And.intro (H7.out.1.keep hg) (own_kept H7.out.2.1 hg))
              clear hg
              have HU := Lib.hid (HUU.out)
              generalize hu : upF L r f s t = u at *
              have HL := Lib.hid (show u.l = L by rw [← hu]; unfold upF; split <;> rfl)
              obtain ⟨up, ul, ur, uf, us, ut⟩ := u
              clear hu
              have hul : ul = L := HL.out
              subst hul
              have z0 := (H8.out.1.r).c 0 rfl
              have z1 := (H8.out.1.r).c 1 rfl
              have z2 := (H8.out.1.r).c 2 rfl
              have z3 := (H8.out.1.r).c 3 rfl
              have z4 := (H8.out.1.r).c 4 rfl
              have z5 := (H8.out.1.r).c 5 rfl
              have zf0 := (H8.out.1.r).f 0
              have zf1 := (H8.out.1.r).f 1
              have zf2 := (H8.out.1.r).f 2
              have zf3 := (H8.out.1.r).f 3
              have zf4 := (H8.out.1.r).f 4
              have zf5 := (H8.out.1.r).f 5
              go_wp2_with fail
              refine bodyPost_ret (v := .tuple #[bbV up a5 ul.length c5 ur uf us ut, .bool true]) ?_ rfl (bs_yes HYES.out HU.out ?_ ?_ (show w.heap.size ≤ w.heap.size + 1 + 1 + 1 by omega))
              · simp [results, Try.results7, go_sem, z0, z1, z2, z3, z4, z5]
              · repeat (first | with_reducible exact H8.out.1.g | with_reducible refine gS ?_ (by omega) _ _)
              · repeat (first | with_reducible exact H8.out.2 | with_reducible refine own_setB ?_ (by omega))
            · have hm2 : ¬ r < q := by omega
              have hm3 : ¬ r ≤ q := by omega
              have hm5 : q ≤ r := by omega
              have hm4 : min r q = q := by omega
              have HMN := Lib.hid (show mnI r q = q from if_neg hm2)
              have hR2 : 1 ≤ q ∧ q ≤ 60000 := by omega
              have HUU := Lib.hid (show stepN (⟨1, l, r, f, s, t⟩ : Bb) (tx, rx) q fl = upF (addF l (tx, rx) (10 * r)) q f s t by simp [stepN, HMN.out])
              go_enter Try.func7, Try.ntmps7
              go_wp2_with fail
              generalize (((w.alloc (.cells (bbC 1 a l.length c r f s t) 26)).alloc (.cells #[.int .i64 tx, .int .i64 rx] 28)).alloc (.cells (#[.int .i64 0, .slice none 0 0, .int .i64 0, .int .i64 0, .int .i64 0, .int .i64 0]) 26)) = w3 at *
              refine (bb_ok_impl _ _ _ _ _ _ _ _ _ HR.out (by omega)).mono ?_
              rintro e w4 ⟨rfl, hg⟩
              rw [HOK.out]
              have H4 := Lib.hid (H3.out.keep hg)
              have HR4 := Lib.hid (HR.out.kept hg)
              clear hg
              have b0 := (H4.out.b).c 0 rfl
              have b1 := (H4.out.b).c 1 rfl
              have b2 := (H4.out.b).c 2 rfl
              have b3 := (H4.out.b).c 3 rfl
              have b4 := (H4.out.b).c 4 rfl
              have b5 := (H4.out.b).c 5 rfl
              have x0 := H4.out.x.c 0 rfl
              have x1 := H4.out.x.c 1 rfl
              have z0 := (H4.out.r).c 0 rfl
              have z1 := (H4.out.r).c 1 rfl
              have z2 := (H4.out.r).c 2 rfl
              have z3 := (H4.out.r).c 3 rfl
              have z4 := (H4.out.r).c 4 rfl
              have z5 := (H4.out.r).c 5 rfl
              have zf0 := (H4.out.r).f 0
              have zf1 := (H4.out.r).f 1
              have zf2 := (H4.out.r).f 2
              have zf3 := (H4.out.r).f 3
              have zf4 := (H4.out.r).f 4
              have zf5 := (H4.out.r).f 5
              go_wp2_with (first | (go_at_call 21; refine (trip_any _ _).mono ?_; rintro e w' ⟨rfl, rfl⟩; rw [HQ.out]) | (go_at_call 22; refine (upto_any _ _).mono ?_; rintro e w' ⟨rfl, rfl⟩; rw [HF.out]))
              refine (add_impl _ _ _ _ _ _ _ HR4.out (by omega)).mono ?_
              rintro e w5 ⟨a5, c5, rfl, hg, ho⟩
              rw [HAO.out]
              rw [HAL.out] at ho ⊢
              have hs5 := hg.size
              have hlt5 := H4.out.r.lt
              have H5 := Lib.hid (And.intro (H4.out.keep hg) (own_base ho (show w.heap.size + 1 + 1 + 1 ≤ w4.heap.size by omega)))
              clear hg ho b0 b1 b2 b3 b4 b5 x0 x1 z0 z1 z2 z3 z4 z5 zf0 zf1 zf2 zf3 zf4 zf5
              generalize addF l (tx, rx) (10 * r) = L at *
              have b0 := (H5.out.1.b).c 0 rfl
              have b1 := (H5.out.1.b).c 1 rfl
              have b2 := (H5.out.1.b).c 2 rfl
              have b3 := (H5.out.1.b).c 3 rfl
              have b4 := (H5.out.1.b).c 4 rfl
              have b5 := (H5.out.1.b).c 5 rfl
              have bf0 := (H5.out.1.b).f 0
              have bf1 := (H5.out.1.b).f 1
              have bf2 := (H5.out.1.b).f 2
              have bf3 := (H5.out.1.b).f 3
              have bf4 := (H5.out.1.b).f 4
              have bf5 := (H5.out.1.b).f 5
              have H6 := Lib.hid (show St3 w (bbC 1 a5 L.length c5 q f s t) tx rx ((w5.setCell ⟨w.heap.size, 1, none⟩ (.slice a5 L.length c5)).setCell ⟨w.heap.size, 2, none⟩ (.int .i64 q)) from ⟨gS (gS H5.out.1.g (Nat.le_refl _) 1 _) (Nat.le_refl _) 2 _, (show Bx _ _ _ (bbC 1 a5 L.length c5 r f s t) from H5.out.1.b.s 1 (.slice a5 L.length c5)).s 2 (.int .i64 q), (H5.out.1.x.other (by omega) 1 _).other (by omega) 2 _, (H5.out.1.r.other (by omega) 1 _).other (by omega) 2 _⟩)
              have HO6 := Lib.hid (own_setB (own_setB (v := .slice a5 L.length c5) (D := w.heap.size) (o := 1) H5.out.2 (by omega)) (v := .int .i64 q) (D := w.heap.size) (o := 2) (by omega))
              go_wp2_with fail
              generalize (w5.setCell ⟨w.heap.size, 1, none⟩ (.slice a5 L.length c5)).setCell ⟨w.heap.size, 2, none⟩ (.int .i64 q) = w6 at *
              have H7 := Lib.hid (And.intro H6.out (And.intro HO6.out (rg_own HO6.out)))
              clear b0 b1 b2 b3 b4 b5 bf0 bf1 bf2 bf3 bf4 bf5
              refine (up_any _ _ _ _ _ _ _ _ H7.out.2.2 HLP.out.1 HLP.out.2 hf2 (by omega)).mono ?_
              rintro e w8 ⟨rfl, hg⟩
              have H8 := Lib.hid (And.intro (H7.out.1.keep hg) (own_kept H7.out.2.1 hg))
              clear hg
              have HU := Lib.hid (HUU.out)
              generalize hu : upF L q f s t = u at *
              have HL := Lib.hid (show u.l = L by rw [← hu]; unfold upF; split <;> rfl)
              obtain ⟨up, ul, ur, uf, us, ut⟩ := u
              clear hu
              have hul : ul = L := HL.out
              subst hul
              have z0 := (H8.out.1.r).c 0 rfl
              have z1 := (H8.out.1.r).c 1 rfl
              have z2 := (H8.out.1.r).c 2 rfl
              have z3 := (H8.out.1.r).c 3 rfl
              have z4 := (H8.out.1.r).c 4 rfl
              have z5 := (H8.out.1.r).c 5 rfl
              have zf0 := (H8.out.1.r).f 0
              have zf1 := (H8.out.1.r).f 1
              have zf2 := (H8.out.1.r).f 2
              have zf3 := (H8.out.1.r).f 3
              have zf4 := (H8.out.1.r).f 4
              have zf5 := (H8.out.1.r).f 5
              go_wp2_with fail
              refine bodyPost_ret (v := .tuple #[bbV up a5 ul.length c5 ur uf us ut, .bool true]) ?_ rfl (bs_yes HYES.out HU.out ?_ ?_ (show w.heap.size ≤ w.heap.size + 1 + 1 + 1 by omega))
              · simp [results, Try.results7, go_sem, z0, z1, z2, z3, z4, z5]
              · repeat (first | with_reducible exact H8.out.1.g | with_reducible refine gS ?_ (by omega) _ _)
              · repeat (first | with_reducible exact H8.out.2 | with_reducible refine own_setB ?_ (by omega))
          · clear hs1 hl1 ht1
            have hmm : r < q ∨ r = q ∨ q < r := by omega
            rcases hmm with hm | hm | hm
            · have hm2 : ¬ q < r := by omega
              have hm3 : ¬ q ≤ r := by omega
              have hm5 : r ≤ q := by omega
              have hm4 : min r q = r := by omega
              have HMN := Lib.hid (show mnI r q = r from if_pos hm)
              have hR2 : 1 ≤ r ∧ r ≤ 60000 := by omega
              have HUU := Lib.hid (show stepN (⟨2, l, r, f, s, t⟩ : Bb) (tx, rx) q fl = drF (addF l (tx, rx) (10 * r)) r f s t fl by simp [stepN, HMN.out])
              go_enter Try.func7, Try.ntmps7
              go_wp2_with fail
              generalize (((w.alloc (.cells (bbC 2 a l.length c r f s t) 26)).alloc (.cells #[.int .i64 tx, .int .i64 rx] 28)).alloc (.cells (#[.int .i64 0, .slice none 0 0, .int .i64 0, .int .i64 0, .int .i64 0, .int .i64 0]) 26)) = w3 at *
              refine (bb_ok_impl _ _ _ _ _ _ _ _ _ HR.out (by omega)).mono ?_
              rintro e w4 ⟨rfl, hg⟩
              rw [HOK.out]
              have H4 := Lib.hid (H3.out.keep hg)
              have HR4 := Lib.hid (HR.out.kept hg)
              clear hg
              have b0 := (H4.out.b).c 0 rfl
              have b1 := (H4.out.b).c 1 rfl
              have b2 := (H4.out.b).c 2 rfl
              have b3 := (H4.out.b).c 3 rfl
              have b4 := (H4.out.b).c 4 rfl
              have b5 := (H4.out.b).c 5 rfl
              have x0 := H4.out.x.c 0 rfl
              have x1 := H4.out.x.c 1 rfl
              have z0 := (H4.out.r).c 0 rfl
              have z1 := (H4.out.r).c 1 rfl
              have z2 := (H4.out.r).c 2 rfl
              have z3 := (H4.out.r).c 3 rfl
              have z4 := (H4.out.r).c 4 rfl
              have z5 := (H4.out.r).c 5 rfl
              have zf0 := (H4.out.r).f 0
              have zf1 := (H4.out.r).f 1
              have zf2 := (H4.out.r).f 2
              have zf3 := (H4.out.r).f 3
              have zf4 := (H4.out.r).f 4
              have zf5 := (H4.out.r).f 5
              go_wp2_with (first | (go_at_call 21; refine (trip_any _ _).mono ?_; rintro e w' ⟨rfl, rfl⟩; rw [HQ.out]) | (go_at_call 22; refine (upto_any _ _).mono ?_; rintro e w' ⟨rfl, rfl⟩; rw [HF.out]))
              refine (add_impl _ _ _ _ _ _ _ HR4.out (by omega)).mono ?_
              rintro e w5 ⟨a5, c5, rfl, hg, ho⟩
              rw [HAO.out]
              rw [HAL.out] at ho ⊢
              have hs5 := hg.size
              have hlt5 := H4.out.r.lt
              have H5 := Lib.hid (And.intro (H4.out.keep hg) (own_base ho (show w.heap.size + 1 + 1 + 1 ≤ w4.heap.size by omega)))
              clear hg ho b0 b1 b2 b3 b4 b5 x0 x1 z0 z1 z2 z3 z4 z5 zf0 zf1 zf2 zf3 zf4 zf5
              generalize addF l (tx, rx) (10 * r) = L at *
              have b0 := (H5.out.1.b).c 0 rfl
              have b1 := (H5.out.1.b).c 1 rfl
              have b2 := (H5.out.1.b).c 2 rfl
              have b3 := (H5.out.1.b).c 3 rfl
              have b4 := (H5.out.1.b).c 4 rfl
              have b5 := (H5.out.1.b).c 5 rfl
              have bf0 := (H5.out.1.b).f 0
              have bf1 := (H5.out.1.b).f 1
              have bf2 := (H5.out.1.b).f 2
              have bf3 := (H5.out.1.b).f 3
              have bf4 := (H5.out.1.b).f 4
              have bf5 := (H5.out.1.b).f 5
              have H6 := Lib.hid (show St3 w (bbC 2 a5 L.length c5 r f s t) tx rx ((w5.setCell ⟨w.heap.size, 1, none⟩ (.slice a5 L.length c5)).setCell ⟨w.heap.size, 2, none⟩ (.int .i64 r)) from ⟨gS (gS H5.out.1.g (Nat.le_refl _) 1 _) (Nat.le_refl _) 2 _, (show Bx _ _ _ (bbC 2 a5 L.length c5 r f s t) from H5.out.1.b.s 1 (.slice a5 L.length c5)).s 2 (.int .i64 r), (H5.out.1.x.other (by omega) 1 _).other (by omega) 2 _, (H5.out.1.r.other (by omega) 1 _).other (by omega) 2 _⟩)
              have HO6 := Lib.hid (own_setB (own_setB (v := .slice a5 L.length c5) (D := w.heap.size) (o := 1) H5.out.2 (by omega)) (v := .int .i64 r) (D := w.heap.size) (o := 2) (by omega))
              go_wp2_with fail
              generalize (w5.setCell ⟨w.heap.size, 1, none⟩ (.slice a5 L.length c5)).setCell ⟨w.heap.size, 2, none⟩ (.int .i64 r) = w6 at *
              have H7 := Lib.hid (And.intro H6.out (And.intro HO6.out (rg_own HO6.out)))
              clear b0 b1 b2 b3 b4 b5 bf0 bf1 bf2 bf3 bf4 bf5
              refine (dr_any _ _ _ _ _ _ _ _ _ H7.out.2.2 HLP.out.1 hR2).mono ?_
              rintro e w8 ⟨rfl, hg⟩
              have H8 := Lib.hid (And.intro (H7.out.1.keep hg) (own_kept H7.out.2.1 hg))
              clear hg
              have HU := Lib.hid (HUU.out)
              generalize hu : drF L r f s t fl = u at *
              have HL := Lib.hid (show u.l = L by rw [← hu]; rfl)
              obtain ⟨up, ul, ur, uf, us, ut⟩ := u
              clear hu
              have hul : ul = L := HL.out
              subst hul
              have z0 := (H8.out.1.r).c 0 rfl
              have z1 := (H8.out.1.r).c 1 rfl
              have z2 := (H8.out.1.r).c 2 rfl
              have z3 := (H8.out.1.r).c 3 rfl
              have z4 := (H8.out.1.r).c 4 rfl
              have z5 := (H8.out.1.r).c 5 rfl
              have zf0 := (H8.out.1.r).f 0
              have zf1 := (H8.out.1.r).f 1
              have zf2 := (H8.out.1.r).f 2
              have zf3 := (H8.out.1.r).f 3
              have zf4 := (H8.out.1.r).f 4
              have zf5 := (H8.out.1.r).f 5
              go_wp2_with fail
              refine bodyPost_ret (v := .tuple #[bbV up a5 ul.length c5 ur uf us ut, .bool true]) ?_ rfl (bs_yes HYES.out HU.out ?_ ?_ (show w.heap.size ≤ w.heap.size + 1 + 1 + 1 by omega))
              · simp [results, Try.results7, go_sem, z0, z1, z2, z3, z4, z5]
              · repeat (first | with_reducible exact H8.out.1.g | with_reducible refine gS ?_ (by omega) _ _)
              · repeat (first | with_reducible exact H8.out.2 | with_reducible refine own_setB ?_ (by omega))
            · subst hm
              have HMN := Lib.hid (show mnI r r = r by unfold mnI; split <;> rfl)
              have hR2 : 1 ≤ r ∧ r ≤ 60000 := by omega
              have HUU := Lib.hid (show stepN (⟨2, l, r, f, s, t⟩ : Bb) (tx, rx) r fl = drF (addF l (tx, rx) (10 * r)) r f s t fl by simp [stepN, HMN.out])
              go_enter Try.func7, Try.ntmps7
              go_wp2_with fail
              generalize (((w.alloc (.cells (bbC 2 a l.length c r f s t) 26)).alloc (.cells #[.int .i64 tx, .int .i64 rx] 28)).alloc (.cells (#[.int .i64 0, .slice none 0 0, .int .i64 0, .int .i64 0, .int .i64 0, .int .i64 0]) 26)) = w3 at *
              refine (bb_ok_impl _ _ _ _ _ _ _ _ _ HR.out (by omega)).mono ?_
              rintro e w4 ⟨rfl, hg⟩
              rw [HOK.out]
              have H4 := Lib.hid (H3.out.keep hg)
              have HR4 := Lib.hid (HR.out.kept hg)
              clear hg
              have b0 := (H4.out.b).c 0 rfl
              have b1 := (H4.out.b).c 1 rfl
              have b2 := (H4.out.b).c 2 rfl
              have b3 := (H4.out.b).c 3 rfl
              have b4 := (H4.out.b).c 4 rfl
              have b5 := (H4.out.b).c 5 rfl
              have x0 := H4.out.x.c 0 rfl
              have x1 := H4.out.x.c 1 rfl
              have z0 := (H4.out.r).c 0 rfl
              have z1 := (H4.out.r).c 1 rfl
              have z2 := (H4.out.r).c 2 rfl
              have z3 := (H4.out.r).c 3 rfl
              have z4 := (H4.out.r).c 4 rfl
              have z5 := (H4.out.r).c 5 rfl
              have zf0 := (H4.out.r).f 0
              have zf1 := (H4.out.r).f 1
              have zf2 := (H4.out.r).f 2
              have zf3 := (H4.out.r).f 3
              have zf4 := (H4.out.r).f 4
              have zf5 := (H4.out.r).f 5
              go_wp2_with (first | (go_at_call 21; refine (trip_any _ _).mono ?_; rintro e w' ⟨rfl, rfl⟩; rw [HQ.out]) | (go_at_call 22; refine (upto_any _ _).mono ?_; rintro e w' ⟨rfl, rfl⟩; rw [HF.out]))
              refine (add_impl _ _ _ _ _ _ _ HR4.out (by omega)).mono ?_
              rintro e w5 ⟨a5, c5, rfl, hg, ho⟩
              rw [HAO.out]
              rw [HAL.out] at ho ⊢
              have hs5 := hg.size
              have hlt5 := H4.out.r.lt
              have H5 := Lib.hid (And.intro (H4.out.keep hg) (own_base ho (show w.heap.size + 1 + 1 + 1 ≤ w4.heap.size by omega)))
              clear hg ho b0 b1 b2 b3 b4 b5 x0 x1 z0 z1 z2 z3 z4 z5 zf0 zf1 zf2 zf3 zf4 zf5
              generalize addF l (tx, rx) (10 * r) = L at *
              have b0 := (H5.out.1.b).c 0 rfl
              have b1 := (H5.out.1.b).c 1 rfl
              have b2 := (H5.out.1.b).c 2 rfl
              have b3 := (H5.out.1.b).c 3 rfl
              have b4 := (H5.out.1.b).c 4 rfl
              have b5 := (H5.out.1.b).c 5 rfl
              have bf0 := (H5.out.1.b).f 0
              have bf1 := (H5.out.1.b).f 1
              have bf2 := (H5.out.1.b).f 2
              have bf3 := (H5.out.1.b).f 3
              have bf4 := (H5.out.1.b).f 4
              have bf5 := (H5.out.1.b).f 5
              have H6 := Lib.hid (show St3 w (bbC 2 a5 L.length c5 r f s t) tx rx ((w5.setCell ⟨w.heap.size, 1, none⟩ (.slice a5 L.length c5)).setCell ⟨w.heap.size, 2, none⟩ (.int .i64 r)) from ⟨gS (gS H5.out.1.g (Nat.le_refl _) 1 _) (Nat.le_refl _) 2 _, (show Bx _ _ _ (bbC 2 a5 L.length c5 r f s t) from H5.out.1.b.s 1 (.slice a5 L.length c5)).s 2 (.int .i64 r), (H5.out.1.x.other (by omega) 1 _).other (by omega) 2 _, (H5.out.1.r.other (by omega) 1 _).other (by omega) 2 _⟩)
              have HO6 := Lib.hid (own_setB (own_setB (v := .slice a5 L.length c5) (D := w.heap.size) (o := 1) H5.out.2 (by omega)) (v := .int .i64 r) (D := w.heap.size) (o := 2) (by omega))
              go_wp2_with fail
              generalize (w5.setCell ⟨w.heap.size, 1, none⟩ (.slice a5 L.length c5)).setCell ⟨w.heap.size, 2, none⟩ (.int .i64 r) = w6 at *
              have H7 := Lib.hid (And.intro H6.out (And.intro HO6.out (rg_own HO6.out)))
              clear b0 b1 b2 b3 b4 b5 bf0 bf1 bf2 bf3 bf4 bf5
              refine (dr_any _ _ _ _ _ _ _ _ _ H7.out.2.2 HLP.out.1 hR2).mono ?_
              rintro e w8 ⟨rfl, hg⟩
              have H8 := Lib.hid (And.intro (H7.out.1.keep hg) (own_kept H7.out.2.1 hg))
              clear hg
              have HU := Lib.hid (HUU.out)
              generalize hu : drF L r f s t fl = u at *
              have HL := Lib.hid (show u.l = L by rw [← hu]; rfl)
              obtain ⟨up, ul, ur, uf, us, ut⟩ := u
              clear hu
              have hul : ul = L := HL.out
              subst hul
              have z0 := (H8.out.1.r).c 0 rfl
              have z1 := (H8.out.1.r).c 1 rfl
              have z2 := (H8.out.1.r).c 2 rfl
              have z3 := (H8.out.1.r).c 3 rfl
              have z4 := (H8.out.1.r).c 4 rfl
              have z5 := (H8.out.1.r).c 5 rfl
              have zf0 := (H8.out.1.r).f 0
              have zf1 := (H8.out.1.r).f 1
              have zf2 := (H8.out.1.r).f 2
              have zf3 := (H8.out.1.r).f 3
              have zf4 := (H8.out.1.r).f 4
              have zf5 := (H8.out.1.r).f 5
              go_wp2_with fail
              refine bodyPost_ret (v := .tuple #[bbV up a5 ul.length c5 ur uf us ut, .bool true]) ?_ rfl (bs_yes HYES.out HU.out ?_ ?_ (show w.heap.size ≤ w.heap.size + 1 + 1 + 1 by omega))
              · simp [results, Try.results7, go_sem, z0, z1, z2, z3, z4, z5]
              · repeat (first | with_reducible exact H8.out.1.g | with_reducible refine gS ?_ (by omega) _ _)
              · repeat (first | with_reducible exact H8.out.2 | with_reducible refine own_setB ?_ (by omega))
            · have hm2 : ¬ r < q := by omega
              have hm3 : ¬ r ≤ q := by omega
              have hm5 : q ≤ r := by omega
              have hm4 : min r q = q := by omega
              have HMN := Lib.hid (show mnI r q = q from if_neg hm2)
              have hR2 : 1 ≤ q ∧ q ≤ 60000 := by omega
              have HUU := Lib.hid (show stepN (⟨2, l, r, f, s, t⟩ : Bb) (tx, rx) q fl = drF (addF l (tx, rx) (10 * r)) q f s t fl by simp [stepN, HMN.out])
              go_enter Try.func7, Try.ntmps7
              go_wp2_with fail
              generalize (((w.alloc (.cells (bbC 2 a l.length c r f s t) 26)).alloc (.cells #[.int .i64 tx, .int .i64 rx] 28)).alloc (.cells (#[.int .i64 0, .slice none 0 0, .int .i64 0, .int .i64 0, .int .i64 0, .int .i64 0]) 26)) = w3 at *
              refine (bb_ok_impl _ _ _ _ _ _ _ _ _ HR.out (by omega)).mono ?_
              rintro e w4 ⟨rfl, hg⟩
              rw [HOK.out]
              have H4 := Lib.hid (H3.out.keep hg)
              have HR4 := Lib.hid (HR.out.kept hg)
              clear hg
              have b0 := (H4.out.b).c 0 rfl
              have b1 := (H4.out.b).c 1 rfl
              have b2 := (H4.out.b).c 2 rfl
              have b3 := (H4.out.b).c 3 rfl
              have b4 := (H4.out.b).c 4 rfl
              have b5 := (H4.out.b).c 5 rfl
              have x0 := H4.out.x.c 0 rfl
              have x1 := H4.out.x.c 1 rfl
              have z0 := (H4.out.r).c 0 rfl
              have z1 := (H4.out.r).c 1 rfl
              have z2 := (H4.out.r).c 2 rfl
              have z3 := (H4.out.r).c 3 rfl
              have z4 := (H4.out.r).c 4 rfl
              have z5 := (H4.out.r).c 5 rfl
              have zf0 := (H4.out.r).f 0
              have zf1 := (H4.out.r).f 1
              have zf2 := (H4.out.r).f 2
              have zf3 := (H4.out.r).f 3
              have zf4 := (H4.out.r).f 4
              have zf5 := (H4.out.r).f 5
              go_wp2_with (first | (go_at_call 21; refine (trip_any _ _).mono ?_; rintro e w' ⟨rfl, rfl⟩; rw [HQ.out]) | (go_at_call 22; refine (upto_any _ _).mono ?_; rintro e w' ⟨rfl, rfl⟩; rw [HF.out]))
              refine (add_impl _ _ _ _ _ _ _ HR4.out (by omega)).mono ?_
              rintro e w5 ⟨a5, c5, rfl, hg, ho⟩
              rw [HAO.out]
              rw [HAL.out] at ho ⊢
              have hs5 := hg.size
              have hlt5 := H4.out.r.lt
              have H5 := Lib.hid (And.intro (H4.out.keep hg) (own_base ho (show w.heap.size + 1 + 1 + 1 ≤ w4.heap.size by omega)))
              clear hg ho b0 b1 b2 b3 b4 b5 x0 x1 z0 z1 z2 z3 z4 z5 zf0 zf1 zf2 zf3 zf4 zf5
              generalize addF l (tx, rx) (10 * r) = L at *
              have b0 := (H5.out.1.b).c 0 rfl
              have b1 := (H5.out.1.b).c 1 rfl
              have b2 := (H5.out.1.b).c 2 rfl
              have b3 := (H5.out.1.b).c 3 rfl
              have b4 := (H5.out.1.b).c 4 rfl
              have b5 := (H5.out.1.b).c 5 rfl
              have bf0 := (H5.out.1.b).f 0
              have bf1 := (H5.out.1.b).f 1
              have bf2 := (H5.out.1.b).f 2
              have bf3 := (H5.out.1.b).f 3
              have bf4 := (H5.out.1.b).f 4
              have bf5 := (H5.out.1.b).f 5
              have H6 := Lib.hid (show St3 w (bbC 2 a5 L.length c5 q f s t) tx rx ((w5.setCell ⟨w.heap.size, 1, none⟩ (.slice a5 L.length c5)).setCell ⟨w.heap.size, 2, none⟩ (.int .i64 q)) from ⟨gS (gS H5.out.1.g (Nat.le_refl _) 1 _) (Nat.le_refl _) 2 _, (show Bx _ _ _ (bbC 2 a5 L.length c5 r f s t) from H5.out.1.b.s 1 (.slice a5 L.length c5)).s 2 (.int .i64 q), (H5.out.1.x.other (by omega) 1 _).other (by omega) 2 _, (H5.out.1.r.other (by omega) 1 _).other (by omega) 2 _⟩)
              have HO6 := Lib.hid (own_setB (own_setB (v := .slice a5 L.length c5) (D := w.heap.size) (o := 1) H5.out.2 (by omega)) (v := .int .i64 q) (D := w.heap.size) (o := 2) (by omega))
              go_wp2_with fail
              generalize (w5.setCell ⟨w.heap.size, 1, none⟩ (.slice a5 L.length c5)).setCell ⟨w.heap.size, 2, none⟩ (.int .i64 q) = w6 at *
              have H7 := Lib.hid (And.intro H6.out (And.intro HO6.out (rg_own HO6.out)))
              clear b0 b1 b2 b3 b4 b5 bf0 bf1 bf2 bf3 bf4 bf5
              refine (dr_any _ _ _ _ _ _ _ _ _ H7.out.2.2 HLP.out.1 hR2).mono ?_
              rintro e w8 ⟨rfl, hg⟩
              have H8 := Lib.hid (And.intro (H7.out.1.keep hg) (own_kept H7.out.2.1 hg))
              clear hg
              have HU := Lib.hid (HUU.out)
              generalize hu : drF L q f s t fl = u at *
              have HL := Lib.hid (show u.l = L by rw [← hu]; rfl)
              obtain ⟨up, ul, ur, uf, us, ut⟩ := u
              clear hu
              have hul : ul = L := HL.out
              subst hul
              have z0 := (H8.out.1.r).c 0 rfl
              have z1 := (H8.out.1.r).c 1 rfl
              have z2 := (H8.out.1.r).c 2 rfl
              have z3 := (H8.out.1.r).c 3 rfl
              have z4 := (H8.out.1.r).c 4 rfl
              have z5 := (H8.out.1.r).c 5 rfl
              have zf0 := (H8.out.1.r).f 0
              have zf1 := (H8.out.1.r).f 1
              have zf2 := (H8.out.1.r).f 2
              have zf3 := (H8.out.1.r).f 3
              have zf4 := (H8.out.1.r).f 4
              have zf5 := (H8.out.1.r).f 5
              go_wp2_with fail
              refine bodyPost_ret (v := .tuple #[bbV up a5 ul.length c5 ur uf us ut, .bool true]) ?_ rfl (bs_yes HYES.out HU.out ?_ ?_ (show w.heap.size ≤ w.heap.size + 1 + 1 + 1 by omega))
              · simp [results, Try.results7, go_sem, z0, z1, z2, z3, z4, z5]
              · repeat (first | with_reducible exact H8.out.1.g | with_reducible refine gS ?_ (by omega) _ _)
              · repeat (first | with_reducible exact H8.out.2 | with_reducible refine own_setB ?_ (by omega))
          · clear hs1 hl1
            have hmm : r < q ∨ r = q ∨ q < r := by omega
            rcases hmm with hm | hm | hm
            · have hm2 : ¬ q < r := by omega
              have hm3 : ¬ q ≤ r := by omega
              have hm5 : r ≤ q := by omega
              have hm4 : min r q = r := by omega
              have HMN := Lib.hid (show mnI r q = r from if_pos hm)
              have hR2 : 1 ≤ r ∧ r ≤ 60000 := by omega
              have HUU := Lib.hid (show stepN (⟨3, l, r, f, s, t⟩ : Bb) (tx, rx) q fl = prF (addF l (tx, rx) (10 * r)) r f s t by simp [stepN, HMN.out])
              go_enter Try.func7, Try.ntmps7
              go_wp2_with fail
              generalize (((w.alloc (.cells (bbC 3 a l.length c r f s t) 26)).alloc (.cells #[.int .i64 tx, .int .i64 rx] 28)).alloc (.cells (#[.int .i64 0, .slice none 0 0, .int .i64 0, .int .i64 0, .int .i64 0, .int .i64 0]) 26)) = w3 at *
              refine (bb_ok_impl _ _ _ _ _ _ _ _ _ HR.out (by omega)).mono ?_
              rintro e w4 ⟨rfl, hg⟩
              rw [HOK.out]
              have H4 := Lib.hid (H3.out.keep hg)
              have HR4 := Lib.hid (HR.out.kept hg)
              clear hg
              have b0 := (H4.out.b).c 0 rfl
              have b1 := (H4.out.b).c 1 rfl
              have b2 := (H4.out.b).c 2 rfl
              have b3 := (H4.out.b).c 3 rfl
              have b4 := (H4.out.b).c 4 rfl
              have b5 := (H4.out.b).c 5 rfl
              have x0 := H4.out.x.c 0 rfl
              have x1 := H4.out.x.c 1 rfl
              have z0 := (H4.out.r).c 0 rfl
              have z1 := (H4.out.r).c 1 rfl
              have z2 := (H4.out.r).c 2 rfl
              have z3 := (H4.out.r).c 3 rfl
              have z4 := (H4.out.r).c 4 rfl
              have z5 := (H4.out.r).c 5 rfl
              have zf0 := (H4.out.r).f 0
              have zf1 := (H4.out.r).f 1
              have zf2 := (H4.out.r).f 2
              have zf3 := (H4.out.r).f 3
              have zf4 := (H4.out.r).f 4
              have zf5 := (H4.out.r).f 5
              go_wp2_with (first | (go_at_call 21; refine (trip_any _ _).mono ?_; rintro e w' ⟨rfl, rfl⟩; rw [HQ.out]) | (go_at_call 22; refine (upto_any _ _).mono ?_; rintro e w' ⟨rfl, rfl⟩; rw [HF.out]))
              refine (add_impl _ _ _ _ _ _ _ HR4.out (by omega)).mono ?_
              rintro e w5 ⟨a5, c5, rfl, hg, ho⟩
              rw [HAO.out]
              rw [HAL.out] at ho ⊢
              have hs5 := hg.size
              have hlt5 := H4.out.r.lt
              have H5 := Lib.hid (And.intro (H4.out.keep hg) (own_base ho (show w.heap.size + 1 + 1 + 1 ≤ w4.heap.size by omega)))
              clear hg ho b0 b1 b2 b3 b4 b5 x0 x1 z0 z1 z2 z3 z4 z5 zf0 zf1 zf2 zf3 zf4 zf5
              generalize addF l (tx, rx) (10 * r) = L at *
              have b0 := (H5.out.1.b).c 0 rfl
              have b1 := (H5.out.1.b).c 1 rfl
              have b2 := (H5.out.1.b).c 2 rfl
              have b3 := (H5.out.1.b).c 3 rfl
              have b4 := (H5.out.1.b).c 4 rfl
              have b5 := (H5.out.1.b).c 5 rfl
              have bf0 := (H5.out.1.b).f 0
              have bf1 := (H5.out.1.b).f 1
              have bf2 := (H5.out.1.b).f 2
              have bf3 := (H5.out.1.b).f 3
              have bf4 := (H5.out.1.b).f 4
              have bf5 := (H5.out.1.b).f 5
              have H6 := Lib.hid (show St3 w (bbC 3 a5 L.length c5 r f s t) tx rx ((w5.setCell ⟨w.heap.size, 1, none⟩ (.slice a5 L.length c5)).setCell ⟨w.heap.size, 2, none⟩ (.int .i64 r)) from ⟨gS (gS H5.out.1.g (Nat.le_refl _) 1 _) (Nat.le_refl _) 2 _, (show Bx _ _ _ (bbC 3 a5 L.length c5 r f s t) from H5.out.1.b.s 1 (.slice a5 L.length c5)).s 2 (.int .i64 r), (H5.out.1.x.other (by omega) 1 _).other (by omega) 2 _, (H5.out.1.r.other (by omega) 1 _).other (by omega) 2 _⟩)
              have HO6 := Lib.hid (own_setB (own_setB (v := .slice a5 L.length c5) (D := w.heap.size) (o := 1) H5.out.2 (by omega)) (v := .int .i64 r) (D := w.heap.size) (o := 2) (by omega))
              go_wp2_with fail
              generalize (w5.setCell ⟨w.heap.size, 1, none⟩ (.slice a5 L.length c5)).setCell ⟨w.heap.size, 2, none⟩ (.int .i64 r) = w6 at *
              have H7 := Lib.hid (And.intro H6.out (And.intro HO6.out (rg_own HO6.out)))
              clear b0 b1 b2 b3 b4 b5 bf0 bf1 bf2 bf3 bf4 bf5
              refine (pr_any _ _ _ _ _ _ _ _ (by omega)).mono ?_
              rintro e w8 ⟨rfl, hg⟩
              have H8 := Lib.hid (And.intro (H7.out.1.keep hg) (own_kept H7.out.2.1 hg))
              clear hg
              have HU := Lib.hid (HUU.out)
              generalize hu : prF L r f s t = u at *
              have HL := Lib.hid (show u.l = L by rw [← hu]; rfl)
              obtain ⟨up, ul, ur, uf, us, ut⟩ := u
              clear hu
              have hul : ul = L := HL.out
              subst hul
              have z0 := (H8.out.1.r).c 0 rfl
              have z1 := (H8.out.1.r).c 1 rfl
              have z2 := (H8.out.1.r).c 2 rfl
              have z3 := (H8.out.1.r).c 3 rfl
              have z4 := (H8.out.1.r).c 4 rfl
              have z5 := (H8.out.1.r).c 5 rfl
              have zf0 := (H8.out.1.r).f 0
              have zf1 := (H8.out.1.r).f 1
              have zf2 := (H8.out.1.r).f 2
              have zf3 := (H8.out.1.r).f 3
              have zf4 := (H8.out.1.r).f 4
              have zf5 := (H8.out.1.r).f 5
              go_wp2_with fail
              refine bodyPost_ret (v := .tuple #[bbV up a5 ul.length c5 ur uf us ut, .bool true]) ?_ rfl (bs_yes HYES.out HU.out ?_ ?_ (show w.heap.size ≤ w.heap.size + 1 + 1 + 1 by omega))
              · simp [results, Try.results7, go_sem, z0, z1, z2, z3, z4, z5]
              · repeat (first | with_reducible exact H8.out.1.g | with_reducible refine gS ?_ (by omega) _ _)
              · repeat (first | with_reducible exact H8.out.2 | with_reducible refine own_setB ?_ (by omega))
            · subst hm
              have HMN := Lib.hid (show mnI r r = r by unfold mnI; split <;> rfl)
              have hR2 : 1 ≤ r ∧ r ≤ 60000 := by omega
              have HUU := Lib.hid (show stepN (⟨3, l, r, f, s, t⟩ : Bb) (tx, rx) r fl = prF (addF l (tx, rx) (10 * r)) r f s t by simp [stepN, HMN.out])
              go_enter Try.func7, Try.ntmps7
              go_wp2_with fail
              generalize (((w.alloc (.cells (bbC 3 a l.length c r f s t) 26)).alloc (.cells #[.int .i64 tx, .int .i64 rx] 28)).alloc (.cells (#[.int .i64 0, .slice none 0 0, .int .i64 0, .int .i64 0, .int .i64 0, .int .i64 0]) 26)) = w3 at *
              refine (bb_ok_impl _ _ _ _ _ _ _ _ _ HR.out (by omega)).mono ?_
              rintro e w4 ⟨rfl, hg⟩
              rw [HOK.out]
              have H4 := Lib.hid (H3.out.keep hg)
              have HR4 := Lib.hid (HR.out.kept hg)
              clear hg
              have b0 := (H4.out.b).c 0 rfl
              have b1 := (H4.out.b).c 1 rfl
              have b2 := (H4.out.b).c 2 rfl
              have b3 := (H4.out.b).c 3 rfl
              have b4 := (H4.out.b).c 4 rfl
              have b5 := (H4.out.b).c 5 rfl
              have x0 := H4.out.x.c 0 rfl
              have x1 := H4.out.x.c 1 rfl
              have z0 := (H4.out.r).c 0 rfl
              have z1 := (H4.out.r).c 1 rfl
              have z2 := (H4.out.r).c 2 rfl
              have z3 := (H4.out.r).c 3 rfl
              have z4 := (H4.out.r).c 4 rfl
              have z5 := (H4.out.r).c 5 rfl
              have zf0 := (H4.out.r).f 0
              have zf1 := (H4.out.r).f 1
              have zf2 := (H4.out.r).f 2
              have zf3 := (H4.out.r).f 3
              have zf4 := (H4.out.r).f 4
              have zf5 := (H4.out.r).f 5
              go_wp2_with (first | (go_at_call 21; refine (trip_any _ _).mono ?_; rintro e w' ⟨rfl, rfl⟩; rw [HQ.out]) | (go_at_call 22; refine (upto_any _ _).mono ?_; rintro e w' ⟨rfl, rfl⟩; rw [HF.out]))
              refine (add_impl _ _ _ _ _ _ _ HR4.out (by omega)).mono ?_
              rintro e w5 ⟨a5, c5, rfl, hg, ho⟩
              rw [HAO.out]
              rw [HAL.out] at ho ⊢
              have hs5 := hg.size
              have hlt5 := H4.out.r.lt
              have H5 := Lib.hid (And.intro (H4.out.keep hg) (own_base ho (show w.heap.size + 1 + 1 + 1 ≤ w4.heap.size by omega)))
              clear hg ho b0 b1 b2 b3 b4 b5 x0 x1 z0 z1 z2 z3 z4 z5 zf0 zf1 zf2 zf3 zf4 zf5
              generalize addF l (tx, rx) (10 * r) = L at *
              have b0 := (H5.out.1.b).c 0 rfl
              have b1 := (H5.out.1.b).c 1 rfl
              have b2 := (H5.out.1.b).c 2 rfl
              have b3 := (H5.out.1.b).c 3 rfl
              have b4 := (H5.out.1.b).c 4 rfl
              have b5 := (H5.out.1.b).c 5 rfl
              have bf0 := (H5.out.1.b).f 0
              have bf1 := (H5.out.1.b).f 1
              have bf2 := (H5.out.1.b).f 2
              have bf3 := (H5.out.1.b).f 3
              have bf4 := (H5.out.1.b).f 4
              have bf5 := (H5.out.1.b).f 5
              have H6 := Lib.hid (show St3 w (bbC 3 a5 L.length c5 r f s t) tx rx ((w5.setCell ⟨w.heap.size, 1, none⟩ (.slice a5 L.length c5)).setCell ⟨w.heap.size, 2, none⟩ (.int .i64 r)) from ⟨gS (gS H5.out.1.g (Nat.le_refl _) 1 _) (Nat.le_refl _) 2 _, (show Bx _ _ _ (bbC 3 a5 L.length c5 r f s t) from H5.out.1.b.s 1 (.slice a5 L.length c5)).s 2 (.int .i64 r), (H5.out.1.x.other (by omega) 1 _).other (by omega) 2 _, (H5.out.1.r.other (by omega) 1 _).other (by omega) 2 _⟩)
              have HO6 := Lib.hid (own_setB (own_setB (v := .slice a5 L.length c5) (D := w.heap.size) (o := 1) H5.out.2 (by omega)) (v := .int .i64 r) (D := w.heap.size) (o := 2) (by omega))
              go_wp2_with fail
              generalize (w5.setCell ⟨w.heap.size, 1, none⟩ (.slice a5 L.length c5)).setCell ⟨w.heap.size, 2, none⟩ (.int .i64 r) = w6 at *
              have H7 := Lib.hid (And.intro H6.out (And.intro HO6.out (rg_own HO6.out)))
              clear b0 b1 b2 b3 b4 b5 bf0 bf1 bf2 bf3 bf4 bf5
              refine (pr_any _ _ _ _ _ _ _ _ (by omega)).mono ?_
              rintro e w8 ⟨rfl, hg⟩
              have H8 := Lib.hid (And.intro (H7.out.1.keep hg) (own_kept H7.out.2.1 hg))
              clear hg
              have HU := Lib.hid (HUU.out)
              generalize hu : prF L r f s t = u at *
              have HL := Lib.hid (show u.l = L by rw [← hu]; rfl)
              obtain ⟨up, ul, ur, uf, us, ut⟩ := u
              clear hu
              have hul : ul = L := HL.out
              subst hul
              have z0 := (H8.out.1.r).c 0 rfl
              have z1 := (H8.out.1.r).c 1 rfl
              have z2 := (H8.out.1.r).c 2 rfl
              have z3 := (H8.out.1.r).c 3 rfl
              have z4 := (H8.out.1.r).c 4 rfl
              have z5 := (H8.out.1.r).c 5 rfl
              have zf0 := (H8.out.1.r).f 0
              have zf1 := (H8.out.1.r).f 1
              have zf2 := (H8.out.1.r).f 2
              have zf3 := (H8.out.1.r).f 3
              have zf4 := (H8.out.1.r).f 4
              have zf5 := (H8.out.1.r).f 5
              go_wp2_with fail
              refine bodyPost_ret (v := .tuple #[bbV up a5 ul.length c5 ur uf us ut, .bool true]) ?_ rfl (bs_yes HYES.out HU.out ?_ ?_ (show w.heap.size ≤ w.heap.size + 1 + 1 + 1 by omega))
              · simp [results, Try.results7, go_sem, z0, z1, z2, z3, z4, z5]
              · repeat (first | with_reducible exact H8.out.1.g | with_reducible refine gS ?_ (by omega) _ _)
              · repeat (first | with_reducible exact H8.out.2 | with_reducible refine own_setB ?_ (by omega))
            · have hm2 : ¬ r < q := by omega
              have hm3 : ¬ r ≤ q := by omega
              have hm5 : q ≤ r := by omega
              have hm4 : min r q = q := by omega
              have HMN := Lib.hid (show mnI r q = q from if_neg hm2)
              have hR2 : 1 ≤ q ∧ q ≤ 60000 := by omega
              have HUU := Lib.hid (show stepN (⟨3, l, r, f, s, t⟩ : Bb) (tx, rx) q fl = prF (addF l (tx, rx) (10 * r)) q f s t by simp [stepN, HMN.out])
              go_enter Try.func7, Try.ntmps7
              go_wp2_with fail
              generalize (((w.alloc (.cells (bbC 3 a l.length c r f s t) 26)).alloc (.cells #[.int .i64 tx, .int .i64 rx] 28)).alloc (.cells (#[.int .i64 0, .slice none 0 0, .int .i64 0, .int .i64 0, .int .i64 0, .int .i64 0]) 26)) = w3 at *
              refine (bb_ok_impl _ _ _ _ _ _ _ _ _ HR.out (by omega)).mono ?_
              rintro e w4 ⟨rfl, hg⟩
              rw [HOK.out]
              have H4 := Lib.hid (H3.out.keep hg)
              have HR4 := Lib.hid (HR.out.kept hg)
              clear hg
              have b0 := (H4.out.b).c 0 rfl
              have b1 := (H4.out.b).c 1 rfl
              have b2 := (H4.out.b).c 2 rfl
              have b3 := (H4.out.b).c 3 rfl
              have b4 := (H4.out.b).c 4 rfl
              have b5 := (H4.out.b).c 5 rfl
              have x0 := H4.out.x.c 0 rfl
              have x1 := H4.out.x.c 1 rfl
              have z0 := (H4.out.r).c 0 rfl
              have z1 := (H4.out.r).c 1 rfl
              have z2 := (H4.out.r).c 2 rfl
              have z3 := (H4.out.r).c 3 rfl
              have z4 := (H4.out.r).c 4 rfl
              have z5 := (H4.out.r).c 5 rfl
              have zf0 := (H4.out.r).f 0
              have zf1 := (H4.out.r).f 1
              have zf2 := (H4.out.r).f 2
              have zf3 := (H4.out.r).f 3
              have zf4 := (H4.out.r).f 4
              have zf5 := (H4.out.r).f 5
              go_wp2_with (first | (go_at_call 21; refine (trip_any _ _).mono ?_; rintro e w' ⟨rfl, rfl⟩; rw [HQ.out]) | (go_at_call 22; refine (upto_any _ _).mono ?_; rintro e w' ⟨rfl, rfl⟩; rw [HF.out]))
              refine (add_impl _ _ _ _ _ _ _ HR4.out (by omega)).mono ?_
              rintro e w5 ⟨a5, c5, rfl, hg, ho⟩
              rw [HAO.out]
              rw [HAL.out] at ho ⊢
              have hs5 := hg.size
              have hlt5 := H4.out.r.lt
              have H5 := Lib.hid (And.intro (H4.out.keep hg) (own_base ho (show w.heap.size + 1 + 1 + 1 ≤ w4.heap.size by omega)))
              clear hg ho b0 b1 b2 b3 b4 b5 x0 x1 z0 z1 z2 z3 z4 z5 zf0 zf1 zf2 zf3 zf4 zf5
              generalize addF l (tx, rx) (10 * r) = L at *
              have b0 := (H5.out.1.b).c 0 rfl
              have b1 := (H5.out.1.b).c 1 rfl
              have b2 := (H5.out.1.b).c 2 rfl
              have b3 := (H5.out.1.b).c 3 rfl
              have b4 := (H5.out.1.b).c 4 rfl
              have b5 := (H5.out.1.b).c 5 rfl
              have bf0 := (H5.out.1.b).f 0
              have bf1 := (H5.out.1.b).f 1
              have bf2 := (H5.out.1.b).f 2
              have bf3 := (H5.out.1.b).f 3
              have bf4 := (H5.out.1.b).f 4
              have bf5 := (H5.out.1.b).f 5
              have H6 := Lib.hid (show St3 w (bbC 3 a5 L.length c5 q f s t) tx rx ((w5.setCell ⟨w.heap.size, 1, none⟩ (.slice a5 L.length c5)).setCell ⟨w.heap.size, 2, none⟩ (.int .i64 q)) from ⟨gS (gS H5.out.1.g (Nat.le_refl _) 1 _) (Nat.le_refl _) 2 _, (show Bx _ _ _ (bbC 3 a5 L.length c5 r f s t) from H5.out.1.b.s 1 (.slice a5 L.length c5)).s 2 (.int .i64 q), (H5.out.1.x.other (by omega) 1 _).other (by omega) 2 _, (H5.out.1.r.other (by omega) 1 _).other (by omega) 2 _⟩)
              have HO6 := Lib.hid (own_setB (own_setB (v := .slice a5 L.length c5) (D := w.heap.size) (o := 1) H5.out.2 (by omega)) (v := .int .i64 q) (D := w.heap.size) (o := 2) (by omega))
              go_wp2_with fail
              generalize (w5.setCell ⟨w.heap.size, 1, none⟩ (.slice a5 L.length c5)).setCell ⟨w.heap.size, 2, none⟩ (.int .i64 q) = w6 at *
              have H7 := Lib.hid (And.intro H6.out (And.intro HO6.out (rg_own HO6.out)))
              clear b0 b1 b2 b3 b4 b5 bf0 bf1 bf2 bf3 bf4 bf5
              refine (pr_any _ _ _ _ _ _ _ _ (by omega)).mono ?_
              rintro e w8 ⟨rfl, hg⟩
              have H8 := Lib.hid (And.intro (H7.out.1.keep hg) (own_kept H7.out.2.1 hg))
              clear hg
              have HU := Lib.hid (HUU.out)
              generalize hu : prF L q f s t = u at *
              have HL := Lib.hid (show u.l = L by rw [← hu]; rfl)
              obtain ⟨up, ul, ur, uf, us, ut⟩ := u
              clear hu
              have hul : ul = L := HL.out
              subst hul
              have z0 := (H8.out.1.r).c 0 rfl
              have z1 := (H8.out.1.r).c 1 rfl
              have z2 := (H8.out.1.r).c 2 rfl
              have z3 := (H8.out.1.r).c 3 rfl
              have z4 := (H8.out.1.r).c 4 rfl
              have z5 := (H8.out.1.r).c 5 rfl
              have zf0 := (H8.out.1.r).f 0
              have zf1 := (H8.out.1.r).f 1
              have zf2 := (H8.out.1.r).f 2
              have zf3 := (H8.out.1.r).f 3
              have zf4 := (H8.out.1.r).f 4
              have zf5 := (H8.out.1.r).f 5
              go_wp2_with fail
              refine bodyPost_ret (v := .tuple #[bbV up a5 ul.length c5 ur uf us ut, .bool true]) ?_ rfl (bs_yes HYES.out HU.out ?_ ?_ (show w.heap.size ≤ w.heap.size + 1 + 1 + 1 by omega))
              · simp [results, Try.results7, go_sem, z0, z1, z2, z3, z4, z5]
              · repeat (first | with_reducible exact H8.out.1.g | with_reducible refine gS ?_ (by omega) _ _)
              · repeat (first | with_reducible exact H8.out.2 | with_reducible refine own_setB ?_ (by omega))

end Go.Proofs.Yteomllgkcolmhaa
