/- Windows: the program's step, whole. -/
import Derived.Test.YtklbnpnngfoecaaRnJ
import Derived.Laws.EntriesVeiled
import Derived.StillTailTactics
namespace Go.Proofs.Ytklbnpnngfoecaa
open Go.RowKit

def stB (r : Rn) (e : Ev) : Bool := rnOk r && evOk e
def stR (r : Rn) (e : Ev) : Rn := if stB r e = true then rnStep r e else rnZ
def stV (r : Rn) (e : Ev) : Value := .tuple #[rnV (stR r e), .bool (stB r e)]
theorem rn_okg (m w l p d o g : Int) (W : World) : Calls Try.prog 11 #[.agg #[.int .i64 m, .int .i64 w, .int .i64 l, .int .i64 p, .int .i64 d, .int .i64 o, .int .i64 g]] W fun e w' => e = .returned (.bool (rnOk ⟨m, w, l, p, d, o, g⟩)) ∧ W.grownBy w' none :=
  (rn_okI m w l p d o g W).mono fun _ _ ⟨h, k, hk⟩ => ⟨h, hk ▸ gD (gA (World.grownBy.refl _ _) _) k⟩

set_option maxRecDepth 100000 in
set_option maxHeartbeats 2000000 in
theorem rn_stepI (m w l p d o g k n a f x : Int) (W : World)  : Calls Try.prog 16 #[.agg #[.int .i64 m, .int .i64 w, .int .i64 l, .int .i64 p, .int .i64 d, .int .i64 o, .int .i64 g], .agg #[.int .i64 k, .int .i64 n, .int .i64 a, .int .i64 f, .int .i64 x]] W fun e w' => e = .returned (stV ⟨m, w, l, p, d, o, g⟩ ⟨k, n, a, f, x⟩) ∧ W.grownBy w' none := by
  have hok := fun W => rn_okg m w l p d o g W
  have hev := fun W => rn_evI k n a f x W
  cases g1 : rnOk ⟨m, w, l, p, d, o, g⟩
  · rw [g1] at hok
    have HOK := Lib.hid hok
    clear hok hev
    unfold stV stR stB
    rw [g1]
    simp only [Bool.false_and, Bool.false_eq_true, if_false, rnV, rnZ]
    clear g1
    go_enter Try.func16, Try.ntmps16
    go_wp2_with fail
    refine (HOK.out _).mono ?_
    rintro e w1 ⟨rfl, hg⟩
    have HA := Lib.hid (((Bx.new W 25 #[.int .i64 m, .int .i64 w, .int .i64 l, .int .i64 p, .int .i64 d, .int .i64 o, .int .i64 g]).alloc (.cells #[.int .i64 k, .int .i64 n, .int .i64 a, .int .i64 f, .int .i64 x] 41) |>.alloc (.cells #[.int .i64 0, .int .i64 0, .int .i64 0, .int .i64 0, .int .i64 0, .int .i64 0, .int .i64 0] 25)).keep hg)
    have he := ((Bx.new (W.alloc (.cells #[.int .i64 m, .int .i64 w, .int .i64 l, .int .i64 p, .int .i64 d, .int .i64 o, .int .i64 g] 25)) 41 #[.int .i64 k, .int .i64 n, .int .i64 a, .int .i64 f, .int .i64 x]).alloc (.cells #[.int .i64 0, .int .i64 0, .int .i64 0, .int .i64 0, .int .i64 0, .int .i64 0, .int .i64 0] 25)).keep hg
    have hz := (Bx.new ((W.alloc (.cells #[.int .i64 m, .int .i64 w, .int .i64 l, .int .i64 p, .int .i64 d, .int .i64 o, .int .i64 g] 25)).alloc (.cells #[.int .i64 k, .int .i64 n, .int .i64 a, .int .i64 f, .int .i64 x] 41)) 25 #[.int .i64 0, .int .i64 0, .int .i64 0, .int .i64 0, .int .i64 0, .int .i64 0, .int .i64 0]).keep hg
    simp only [World.size_alloc] at he hz
    have HE := Lib.hid he
    have HZ := Lib.hid hz
    clear he hz
    have HG := Lib.hid (grownBy_trans (gA (gA (gA (World.grownBy.refl W none) _) _) _) hg)
    clear hg
    have q0 : w1.cell? ⟨W.heap.size + 1 + 1, 0, none⟩ = some (.int .i64 0) := HZ.out.c 0 rfl
    have q1 : w1.cell? ⟨W.heap.size + 1 + 1, 1, none⟩ = some (.int .i64 0) := HZ.out.c 1 rfl
    have q2 : w1.cell? ⟨W.heap.size + 1 + 1, 2, none⟩ = some (.int .i64 0) := HZ.out.c 2 rfl
    have q3 : w1.cell? ⟨W.heap.size + 1 + 1, 3, none⟩ = some (.int .i64 0) := HZ.out.c 3 rfl
    have q4 : w1.cell? ⟨W.heap.size + 1 + 1, 4, none⟩ = some (.int .i64 0) := HZ.out.c 4 rfl
    have q5 : w1.cell? ⟨W.heap.size + 1 + 1, 5, none⟩ = some (.int .i64 0) := HZ.out.c 5 rfl
    have q6 : w1.cell? ⟨W.heap.size + 1 + 1, 6, none⟩ = some (.int .i64 0) := HZ.out.c 6 rfl
    have qf0 : w1.frozen? ⟨W.heap.size + 1 + 1, 0, none⟩ = false := HZ.out.f 0
    have qf1 : w1.frozen? ⟨W.heap.size + 1 + 1, 1, none⟩ = false := HZ.out.f 1
    have qf2 : w1.frozen? ⟨W.heap.size + 1 + 1, 2, none⟩ = false := HZ.out.f 2
    have qf3 : w1.frozen? ⟨W.heap.size + 1 + 1, 3, none⟩ = false := HZ.out.f 3
    have qf4 : w1.frozen? ⟨W.heap.size + 1 + 1, 4, none⟩ = false := HZ.out.f 4
    have qf5 : w1.frozen? ⟨W.heap.size + 1 + 1, 5, none⟩ = false := HZ.out.f 5
    have qf6 : w1.frozen? ⟨W.heap.size + 1 + 1, 6, none⟩ = false := HZ.out.f 6
    go_wp2_with fail
    exact bodyPost_ret (v := .tuple #[.agg #[.int .i64 0, .int .i64 0, .int .i64 0, .int .i64 0, .int .i64 0, .int .i64 0, .int .i64 0], .bool false]) (by simp [results, Try.results16, go_sem, q0, q1, q2, q3, q4, q5, q6]) rfl ⟨rfl, by repeat (first | with_reducible refine gS ?_ (by first | omega | (simp; omega)) _ _ | with_reducible refine gA ?_ _ | with_reducible refine gD ?_ _ | with_reducible refine gd ?_ | with_reducible exact HG2.out | with_reducible exact HG.out | with_reducible exact World.grownBy.refl _ _)⟩
  · rw [g1] at hok
    have HOK := Lib.hid hok
    clear hok
    cases g2 : evOk ⟨k, n, a, f, x⟩
    · rw [g2] at hev
      have HEV := Lib.hid hev
      clear hev
      unfold stV stR stB
      rw [g1, g2]
      simp only [Bool.and_false, Bool.false_eq_true, if_false, rnV, rnZ]
      clear g1 g2
      go_enter Try.func16, Try.ntmps16
      go_wp2_with fail
      refine (HOK.out _).mono ?_
      rintro e w1 ⟨rfl, hg⟩
      have HA := Lib.hid (((Bx.new W 25 #[.int .i64 m, .int .i64 w, .int .i64 l, .int .i64 p, .int .i64 d, .int .i64 o, .int .i64 g]).alloc (.cells #[.int .i64 k, .int .i64 n, .int .i64 a, .int .i64 f, .int .i64 x] 41) |>.alloc (.cells #[.int .i64 0, .int .i64 0, .int .i64 0, .int .i64 0, .int .i64 0, .int .i64 0, .int .i64 0] 25)).keep hg)
      have he := ((Bx.new (W.alloc (.cells #[.int .i64 m, .int .i64 w, .int .i64 l, .int .i64 p, .int .i64 d, .int .i64 o, .int .i64 g] 25)) 41 #[.int .i64 k, .int .i64 n, .int .i64 a, .int .i64 f, .int .i64 x]).alloc (.cells #[.int .i64 0, .int .i64 0, .int .i64 0, .int .i64 0, .int .i64 0, .int .i64 0, .int .i64 0] 25)).keep hg
      have hz := (Bx.new ((W.alloc (.cells #[.int .i64 m, .int .i64 w, .int .i64 l, .int .i64 p, .int .i64 d, .int .i64 o, .int .i64 g] 25)).alloc (.cells #[.int .i64 k, .int .i64 n, .int .i64 a, .int .i64 f, .int .i64 x] 41)) 25 #[.int .i64 0, .int .i64 0, .int .i64 0, .int .i64 0, .int .i64 0, .int .i64 0, .int .i64 0]).keep hg
      simp only [World.size_alloc] at he hz
      have HE := Lib.hid he
      have HZ := Lib.hid hz
      clear he hz
      have HG := Lib.hid (grownBy_trans (gA (gA (gA (World.grownBy.refl W none) _) _) _) hg)
      clear hg
      have e0 : w1.cell? ⟨W.heap.size + 1, 0, none⟩ = some (.int .i64 k) := HE.out.c 0 rfl
      have e1 : w1.cell? ⟨W.heap.size + 1, 1, none⟩ = some (.int .i64 n) := HE.out.c 1 rfl
      have e2 : w1.cell? ⟨W.heap.size + 1, 2, none⟩ = some (.int .i64 a) := HE.out.c 2 rfl
      have e3 : w1.cell? ⟨W.heap.size + 1, 3, none⟩ = some (.int .i64 f) := HE.out.c 3 rfl
      have e4 : w1.cell? ⟨W.heap.size + 1, 4, none⟩ = some (.int .i64 x) := HE.out.c 4 rfl
      have q0 : w1.cell? ⟨W.heap.size + 1 + 1, 0, none⟩ = some (.int .i64 0) := HZ.out.c 0 rfl
      have q1 : w1.cell? ⟨W.heap.size + 1 + 1, 1, none⟩ = some (.int .i64 0) := HZ.out.c 1 rfl
      have q2 : w1.cell? ⟨W.heap.size + 1 + 1, 2, none⟩ = some (.int .i64 0) := HZ.out.c 2 rfl
      have q3 : w1.cell? ⟨W.heap.size + 1 + 1, 3, none⟩ = some (.int .i64 0) := HZ.out.c 3 rfl
      have q4 : w1.cell? ⟨W.heap.size + 1 + 1, 4, none⟩ = some (.int .i64 0) := HZ.out.c 4 rfl
      have q5 : w1.cell? ⟨W.heap.size + 1 + 1, 5, none⟩ = some (.int .i64 0) := HZ.out.c 5 rfl
      have q6 : w1.cell? ⟨W.heap.size + 1 + 1, 6, none⟩ = some (.int .i64 0) := HZ.out.c 6 rfl
      have qf0 : w1.frozen? ⟨W.heap.size + 1 + 1, 0, none⟩ = false := HZ.out.f 0
      have qf1 : w1.frozen? ⟨W.heap.size + 1 + 1, 1, none⟩ = false := HZ.out.f 1
      have qf2 : w1.frozen? ⟨W.heap.size + 1 + 1, 2, none⟩ = false := HZ.out.f 2
      have qf3 : w1.frozen? ⟨W.heap.size + 1 + 1, 3, none⟩ = false := HZ.out.f 3
      have qf4 : w1.frozen? ⟨W.heap.size + 1 + 1, 4, none⟩ = false := HZ.out.f 4
      have qf5 : w1.frozen? ⟨W.heap.size + 1 + 1, 5, none⟩ = false := HZ.out.f 5
      have qf6 : w1.frozen? ⟨W.heap.size + 1 + 1, 6, none⟩ = false := HZ.out.f 6
      go_wp2_with fail
      refine (HEV.out _).mono ?_
      rintro e w2 ⟨rfl, hw2⟩
      have hg2 : w1.grownBy w2 none := hw2 ▸ gA (World.grownBy.refl _ _) _
      have HG2 := Lib.hid (grownBy_trans HG.out hg2)
      have HZ2 := Lib.hid (HZ.out.keep hg2)
      clear hw2 hg2 q0 qf0 q1 qf1 q2 qf2 q3 qf3 q4 qf4 q5 qf5 q6 qf6
      have q0 : w2.cell? ⟨W.heap.size + 1 + 1, 0, none⟩ = some (.int .i64 0) := HZ2.out.c 0 rfl
      have q1 : w2.cell? ⟨W.heap.size + 1 + 1, 1, none⟩ = some (.int .i64 0) := HZ2.out.c 1 rfl
      have q2 : w2.cell? ⟨W.heap.size + 1 + 1, 2, none⟩ = some (.int .i64 0) := HZ2.out.c 2 rfl
      have q3 : w2.cell? ⟨W.heap.size + 1 + 1, 3, none⟩ = some (.int .i64 0) := HZ2.out.c 3 rfl
      have q4 : w2.cell? ⟨W.heap.size + 1 + 1, 4, none⟩ = some (.int .i64 0) := HZ2.out.c 4 rfl
      have q5 : w2.cell? ⟨W.heap.size + 1 + 1, 5, none⟩ = some (.int .i64 0) := HZ2.out.c 5 rfl
      have q6 : w2.cell? ⟨W.heap.size + 1 + 1, 6, none⟩ = some (.int .i64 0) := HZ2.out.c 6 rfl
      have qf0 : w2.frozen? ⟨W.heap.size + 1 + 1, 0, none⟩ = false := HZ2.out.f 0
      have qf1 : w2.frozen? ⟨W.heap.size + 1 + 1, 1, none⟩ = false := HZ2.out.f 1
      have qf2 : w2.frozen? ⟨W.heap.size + 1 + 1, 2, none⟩ = false := HZ2.out.f 2
      have qf3 : w2.frozen? ⟨W.heap.size + 1 + 1, 3, none⟩ = false := HZ2.out.f 3
      have qf4 : w2.frozen? ⟨W.heap.size + 1 + 1, 4, none⟩ = false := HZ2.out.f 4
      have qf5 : w2.frozen? ⟨W.heap.size + 1 + 1, 5, none⟩ = false := HZ2.out.f 5
      have qf6 : w2.frozen? ⟨W.heap.size + 1 + 1, 6, none⟩ = false := HZ2.out.f 6
      go_wp2_with fail
      exact bodyPost_ret (v := .tuple #[.agg #[.int .i64 0, .int .i64 0, .int .i64 0, .int .i64 0, .int .i64 0, .int .i64 0, .int .i64 0], .bool false]) (by simp [results, Try.results16, go_sem, q0, q1, q2, q3, q4, q5, q6]) rfl ⟨rfl, by repeat (first | with_reducible refine gS ?_ (by first | omega | (simp; omega)) _ _ | with_reducible refine gA ?_ _ | with_reducible refine gD ?_ _ | with_reducible refine gd ?_ | with_reducible exact HG2.out | with_reducible exact HG.out | with_reducible exact World.grownBy.refl _ _)⟩
    · rw [g2] at hev
      have HEV := Lib.hid hev
      clear hev
      obtain ⟨h1, h2, h3, h4, h5, h6, h7, h8, hp⟩ := rn_of g1
      obtain ⟨e1, e2, e3, e4, e5, e6, e7⟩ := ev_of g2
      dsimp only at h1 h2 h3 h4 h5 h6 h7 h8 hp e1 e2 e3 e4 e5 e6 e7
      have hk : k = 1 ∨ k = 2 ∨ k = 3 := by omega
      have hn : k = 1 → 1 ≤ n ∧ n ≤ 1000000000 := by omega
      unfold stV stR stB
      rw [g1, g2]
      simp only [Bool.and_self, if_true]
      clear g1 g2 e1 e4 e5 e6 e7
      rcases hp with ⟨rfl, q1, q2, q3, rfl⟩ | ⟨rfl, q1, q2, q3, q4, q5⟩ | ⟨rfl, rfl, rfl⟩
      · have hs := fun W => rn_slow m w l d o 0 k n a f x W ⟨h1, h2⟩ ⟨h3, h4⟩ ⟨e2, e3⟩ ⟨q2, q3⟩ hn hk
        rw [show rnStep ⟨m, w, l, 1, d, o, 0⟩ ⟨k, n, a, f, x⟩ = (if k = 1 then rnAck ⟨m, w, l, 1, d, o, 0⟩ ⟨k, n, a, f, x⟩ else if k = 3 then rnLate ⟨m, w, l, 1, d, o, 0⟩ ⟨k, n, a, f, x⟩ else rnNo ⟨m, w, l, 1, d, o, 0⟩ ⟨k, n, a, f, x⟩) from by unfold rnStep; rw [if_neg (show ¬ (1 : Int) = 3 by decide)]]
        generalize (if k = 1 then rnAck ⟨m, w, l, 1, d, o, 0⟩ ⟨k, n, a, f, x⟩ else if k = 3 then rnLate ⟨m, w, l, 1, d, o, 0⟩ ⟨k, n, a, f, x⟩ else rnNo ⟨m, w, l, 1, d, o, 0⟩ ⟨k, n, a, f, x⟩) = R at hs ⊢
        obtain ⟨R0, R1, R2, R3, R4, R5, R6⟩ := R
        simp only [rnV] at hs ⊢
        have HS := Lib.hid hs
        clear hs
        go_enter Try.func16, Try.ntmps16
        go_wp2_with fail
        refine (HOK.out _).mono ?_
        rintro e w1 ⟨rfl, hg⟩
        have HA := Lib.hid (((Bx.new W 25 #[.int .i64 m, .int .i64 w, .int .i64 l, .int .i64 1, .int .i64 d, .int .i64 o, .int .i64 0]).alloc (.cells #[.int .i64 k, .int .i64 n, .int .i64 a, .int .i64 f, .int .i64 x] 41) |>.alloc (.cells #[.int .i64 0, .int .i64 0, .int .i64 0, .int .i64 0, .int .i64 0, .int .i64 0, .int .i64 0] 25)).keep hg)
        have he := ((Bx.new (W.alloc (.cells #[.int .i64 m, .int .i64 w, .int .i64 l, .int .i64 1, .int .i64 d, .int .i64 o, .int .i64 0] 25)) 41 #[.int .i64 k, .int .i64 n, .int .i64 a, .int .i64 f, .int .i64 x]).alloc (.cells #[.int .i64 0, .int .i64 0, .int .i64 0, .int .i64 0, .int .i64 0, .int .i64 0, .int .i64 0] 25)).keep hg
        have hz := (Bx.new ((W.alloc (.cells #[.int .i64 m, .int .i64 w, .int .i64 l, .int .i64 1, .int .i64 d, .int .i64 o, .int .i64 0] 25)).alloc (.cells #[.int .i64 k, .int .i64 n, .int .i64 a, .int .i64 f, .int .i64 x] 41)) 25 #[.int .i64 0, .int .i64 0, .int .i64 0, .int .i64 0, .int .i64 0, .int .i64 0, .int .i64 0]).keep hg
        simp only [World.size_alloc] at he hz
        have HE := Lib.hid he
        have HZ := Lib.hid hz
        clear he hz
        have HG := Lib.hid (grownBy_trans (gA (gA (gA (World.grownBy.refl W none) _) _) _) hg)
        clear hg
        have a0 : w1.cell? ⟨W.heap.size, 0, none⟩ = some (.int .i64 m) := HA.out.c 0 rfl
        have a1 : w1.cell? ⟨W.heap.size, 1, none⟩ = some (.int .i64 w) := HA.out.c 1 rfl
        have a2 : w1.cell? ⟨W.heap.size, 2, none⟩ = some (.int .i64 l) := HA.out.c 2 rfl
        have a3 : w1.cell? ⟨W.heap.size, 3, none⟩ = some (.int .i64 1) := HA.out.c 3 rfl
        have a4 : w1.cell? ⟨W.heap.size, 4, none⟩ = some (.int .i64 d) := HA.out.c 4 rfl
        have a5 : w1.cell? ⟨W.heap.size, 5, none⟩ = some (.int .i64 o) := HA.out.c 5 rfl
        have a6 : w1.cell? ⟨W.heap.size, 6, none⟩ = some (.int .i64 0) := HA.out.c 6 rfl
        have af0 : w1.frozen? ⟨W.heap.size, 0, none⟩ = false := HA.out.f 0
        have af1 : w1.frozen? ⟨W.heap.size, 1, none⟩ = false := HA.out.f 1
        have af2 : w1.frozen? ⟨W.heap.size, 2, none⟩ = false := HA.out.f 2
        have af3 : w1.frozen? ⟨W.heap.size, 3, none⟩ = false := HA.out.f 3
        have af4 : w1.frozen? ⟨W.heap.size, 4, none⟩ = false := HA.out.f 4
        have af5 : w1.frozen? ⟨W.heap.size, 5, none⟩ = false := HA.out.f 5
        have af6 : w1.frozen? ⟨W.heap.size, 6, none⟩ = false := HA.out.f 6
        have e0 : w1.cell? ⟨W.heap.size + 1, 0, none⟩ = some (.int .i64 k) := HE.out.c 0 rfl
        have e1 : w1.cell? ⟨W.heap.size + 1, 1, none⟩ = some (.int .i64 n) := HE.out.c 1 rfl
        have e2 : w1.cell? ⟨W.heap.size + 1, 2, none⟩ = some (.int .i64 a) := HE.out.c 2 rfl
        have e3 : w1.cell? ⟨W.heap.size + 1, 3, none⟩ = some (.int .i64 f) := HE.out.c 3 rfl
        have e4 : w1.cell? ⟨W.heap.size + 1, 4, none⟩ = some (.int .i64 x) := HE.out.c 4 rfl
        have q0 : w1.cell? ⟨W.heap.size + 1 + 1, 0, none⟩ = some (.int .i64 0) := HZ.out.c 0 rfl
        have q1 : w1.cell? ⟨W.heap.size + 1 + 1, 1, none⟩ = some (.int .i64 0) := HZ.out.c 1 rfl
        have q2 : w1.cell? ⟨W.heap.size + 1 + 1, 2, none⟩ = some (.int .i64 0) := HZ.out.c 2 rfl
        have q3 : w1.cell? ⟨W.heap.size + 1 + 1, 3, none⟩ = some (.int .i64 0) := HZ.out.c 3 rfl
        have q4 : w1.cell? ⟨W.heap.size + 1 + 1, 4, none⟩ = some (.int .i64 0) := HZ.out.c 4 rfl
        have q5 : w1.cell? ⟨W.heap.size + 1 + 1, 5, none⟩ = some (.int .i64 0) := HZ.out.c 5 rfl
        have q6 : w1.cell? ⟨W.heap.size + 1 + 1, 6, none⟩ = some (.int .i64 0) := HZ.out.c 6 rfl
        have qf0 : w1.frozen? ⟨W.heap.size + 1 + 1, 0, none⟩ = false := HZ.out.f 0
        have qf1 : w1.frozen? ⟨W.heap.size + 1 + 1, 1, none⟩ = false := HZ.out.f 1
        have qf2 : w1.frozen? ⟨W.heap.size + 1 + 1, 2, none⟩ = false := HZ.out.f 2
        have qf3 : w1.frozen? ⟨W.heap.size + 1 + 1, 3, none⟩ = false := HZ.out.f 3
        have qf4 : w1.frozen? ⟨W.heap.size + 1 + 1, 4, none⟩ = false := HZ.out.f 4
        have qf5 : w1.frozen? ⟨W.heap.size + 1 + 1, 5, none⟩ = false := HZ.out.f 5
        have qf6 : w1.frozen? ⟨W.heap.size + 1 + 1, 6, none⟩ = false := HZ.out.f 6
        have l1 : W.heap.size < w1.heap.size := HA.out.lt
        have l2 : W.heap.size + 1 < w1.heap.size := HE.out.lt
        have l3 : W.heap.size + 1 + 1 < w1.heap.size := HZ.out.lt
        go_wp2_with fail
        refine (HEV.out _).mono ?_
        rintro e w2 ⟨rfl, rfl⟩
        go_wp2_with fail
        obtain ⟨w3, hw3⟩ : ∃ w3, w3 = (w1.alloc (.cells #[.int .i64 k, .int .i64 n, .int .i64 a, .int .i64 f, .int .i64 x] 41)).alloc (.cells #[.nilFunc, .func (.func 29) #[] #[], .func (.func 30) #[] #[], .func (.func 31) #[] #[]] 55) := ⟨_, rfl⟩
        rw [← hw3]
        have hF : Bx w3 (w1.heap.size + 1) 55 #[.nilFunc, .func (.func 29) #[] #[], .func (.func 30) #[] #[], .func (.func 31) #[] #[]] := by
          have h := Bx.new (w1.alloc (.cells #[.int .i64 k, .int .i64 n, .int .i64 a, .int .i64 f, .int .i64 x] 41)) 55 #[.nilFunc, .func (.func 29) #[] #[], .func (.func 30) #[] #[], .func (.func 31) #[] #[]]
          rw [← hw3] at h
          simp only [World.size_alloc] at h
          exact h
        have hg3 : w1.grownBy w3 none := hw3 ▸ gA (gA (World.grownBy.refl _ _) _) _
        have HA3 := Lib.hid (HA.out.keep hg3)
        have HE3 := Lib.hid (HE.out.keep hg3)
        have HZ3 := Lib.hid (HZ.out.keep hg3)
        have HG3 := Lib.hid (grownBy_trans HG.out hg3)
        have HF := Lib.hid hF
        generalize w1.heap.size + 1 = B at *
        clear hF hw3 hg3 HA HE HZ HG l1 l2 l3 a0 af0 a1 af1 a2 af2 a3 af3 a4 af4 a5 af5 a6 af6 e0 e1 e2 e3 e4 q0 qf0 q1 qf1 q2 qf2 q3 qf3 q4 qf4 q5 qf5 q6 qf6
        have a0 : w3.cell? ⟨W.heap.size, 0, none⟩ = some (.int .i64 m) := HA3.out.c 0 rfl
        have a1 : w3.cell? ⟨W.heap.size, 1, none⟩ = some (.int .i64 w) := HA3.out.c 1 rfl
        have a2 : w3.cell? ⟨W.heap.size, 2, none⟩ = some (.int .i64 l) := HA3.out.c 2 rfl
        have a3 : w3.cell? ⟨W.heap.size, 3, none⟩ = some (.int .i64 1) := HA3.out.c 3 rfl
        have a4 : w3.cell? ⟨W.heap.size, 4, none⟩ = some (.int .i64 d) := HA3.out.c 4 rfl
        have a5 : w3.cell? ⟨W.heap.size, 5, none⟩ = some (.int .i64 o) := HA3.out.c 5 rfl
        have a6 : w3.cell? ⟨W.heap.size, 6, none⟩ = some (.int .i64 0) := HA3.out.c 6 rfl
        have af0 : w3.frozen? ⟨W.heap.size, 0, none⟩ = false := HA3.out.f 0
        have af1 : w3.frozen? ⟨W.heap.size, 1, none⟩ = false := HA3.out.f 1
        have af2 : w3.frozen? ⟨W.heap.size, 2, none⟩ = false := HA3.out.f 2
        have af3 : w3.frozen? ⟨W.heap.size, 3, none⟩ = false := HA3.out.f 3
        have af4 : w3.frozen? ⟨W.heap.size, 4, none⟩ = false := HA3.out.f 4
        have af5 : w3.frozen? ⟨W.heap.size, 5, none⟩ = false := HA3.out.f 5
        have af6 : w3.frozen? ⟨W.heap.size, 6, none⟩ = false := HA3.out.f 6
        have e0 : w3.cell? ⟨W.heap.size + 1, 0, none⟩ = some (.int .i64 k) := HE3.out.c 0 rfl
        have e1 : w3.cell? ⟨W.heap.size + 1, 1, none⟩ = some (.int .i64 n) := HE3.out.c 1 rfl
        have e2 : w3.cell? ⟨W.heap.size + 1, 2, none⟩ = some (.int .i64 a) := HE3.out.c 2 rfl
        have e3 : w3.cell? ⟨W.heap.size + 1, 3, none⟩ = some (.int .i64 f) := HE3.out.c 3 rfl
        have e4 : w3.cell? ⟨W.heap.size + 1, 4, none⟩ = some (.int .i64 x) := HE3.out.c 4 rfl
        have q0 : w3.cell? ⟨W.heap.size + 1 + 1, 0, none⟩ = some (.int .i64 0) := HZ3.out.c 0 rfl
        have q1 : w3.cell? ⟨W.heap.size + 1 + 1, 1, none⟩ = some (.int .i64 0) := HZ3.out.c 1 rfl
        have q2 : w3.cell? ⟨W.heap.size + 1 + 1, 2, none⟩ = some (.int .i64 0) := HZ3.out.c 2 rfl
        have q3 : w3.cell? ⟨W.heap.size + 1 + 1, 3, none⟩ = some (.int .i64 0) := HZ3.out.c 3 rfl
        have q4 : w3.cell? ⟨W.heap.size + 1 + 1, 4, none⟩ = some (.int .i64 0) := HZ3.out.c 4 rfl
        have q5 : w3.cell? ⟨W.heap.size + 1 + 1, 5, none⟩ = some (.int .i64 0) := HZ3.out.c 5 rfl
        have q6 : w3.cell? ⟨W.heap.size + 1 + 1, 6, none⟩ = some (.int .i64 0) := HZ3.out.c 6 rfl
        have qf0 : w3.frozen? ⟨W.heap.size + 1 + 1, 0, none⟩ = false := HZ3.out.f 0
        have qf1 : w3.frozen? ⟨W.heap.size + 1 + 1, 1, none⟩ = false := HZ3.out.f 1
        have qf2 : w3.frozen? ⟨W.heap.size + 1 + 1, 2, none⟩ = false := HZ3.out.f 2
        have qf3 : w3.frozen? ⟨W.heap.size + 1 + 1, 3, none⟩ = false := HZ3.out.f 3
        have qf4 : w3.frozen? ⟨W.heap.size + 1 + 1, 4, none⟩ = false := HZ3.out.f 4
        have qf5 : w3.frozen? ⟨W.heap.size + 1 + 1, 5, none⟩ = false := HZ3.out.f 5
        have qf6 : w3.frozen? ⟨W.heap.size + 1 + 1, 6, none⟩ = false := HZ3.out.f 6
        have fn : w3.cell? ⟨B, 1, none⟩ = some (.func (.func 29) #[] #[]) := HF.out.c 1 rfl
        go_still_tail 6, (by kernel_rfl)
        go_wp2_with fail
        refine (HS.out _).mono ?_
        rintro e w9 ⟨rfl, hg⟩
        have HG9 := Lib.hid (grownBy_trans (gd HG3.out) hg)
        have HZ9 := Lib.hid ((HZ3.out.keep grownBy_drew).keep hg)
        clear hg q0 qf0 q1 qf1 q2 qf2 q3 qf3 q4 qf4 q5 qf5 q6 qf6
        have q0 : w9.cell? ⟨W.heap.size + 1 + 1, 0, none⟩ = some (.int .i64 0) := HZ9.out.c 0 rfl
        have q1 : w9.cell? ⟨W.heap.size + 1 + 1, 1, none⟩ = some (.int .i64 0) := HZ9.out.c 1 rfl
        have q2 : w9.cell? ⟨W.heap.size + 1 + 1, 2, none⟩ = some (.int .i64 0) := HZ9.out.c 2 rfl
        have q3 : w9.cell? ⟨W.heap.size + 1 + 1, 3, none⟩ = some (.int .i64 0) := HZ9.out.c 3 rfl
        have q4 : w9.cell? ⟨W.heap.size + 1 + 1, 4, none⟩ = some (.int .i64 0) := HZ9.out.c 4 rfl
        have q5 : w9.cell? ⟨W.heap.size + 1 + 1, 5, none⟩ = some (.int .i64 0) := HZ9.out.c 5 rfl
        have q6 : w9.cell? ⟨W.heap.size + 1 + 1, 6, none⟩ = some (.int .i64 0) := HZ9.out.c 6 rfl
        have qf0 : w9.frozen? ⟨W.heap.size + 1 + 1, 0, none⟩ = false := HZ9.out.f 0
        have qf1 : w9.frozen? ⟨W.heap.size + 1 + 1, 1, none⟩ = false := HZ9.out.f 1
        have qf2 : w9.frozen? ⟨W.heap.size + 1 + 1, 2, none⟩ = false := HZ9.out.f 2
        have qf3 : w9.frozen? ⟨W.heap.size + 1 + 1, 3, none⟩ = false := HZ9.out.f 3
        have qf4 : w9.frozen? ⟨W.heap.size + 1 + 1, 4, none⟩ = false := HZ9.out.f 4
        have qf5 : w9.frozen? ⟨W.heap.size + 1 + 1, 5, none⟩ = false := HZ9.out.f 5
        have qf6 : w9.frozen? ⟨W.heap.size + 1 + 1, 6, none⟩ = false := HZ9.out.f 6
        go_wp2_with fail
        exact bodyPost_ret (v := .tuple #[.agg #[.int .i64 R0, .int .i64 R1, .int .i64 R2, .int .i64 R3, .int .i64 R4, .int .i64 R5, .int .i64 R6], .bool true]) (by simp [results, Try.results16, go_sem, q0, q1, q2, q3, q4, q5, q6]) rfl ⟨rfl, by repeat (first | with_reducible refine gS ?_ (by first | omega | (simp; omega)) _ _ | with_reducible exact HG9.out)⟩
      · have hs := fun W => rn_avoid m w l d o g k n a f x W ⟨h1, h2⟩ ⟨h3, h4⟩ ⟨e2, e3⟩ ⟨q2, q3⟩ ⟨q4, q5⟩ hn hk
        rw [show rnStep ⟨m, w, l, 2, d, o, g⟩ ⟨k, n, a, f, x⟩ = (if k = 1 then rnAck ⟨m, w, l, 2, d, o, g⟩ ⟨k, n, a, f, x⟩ else if k = 3 then rnLate ⟨m, w, l, 2, d, o, g⟩ ⟨k, n, a, f, x⟩ else rnNo ⟨m, w, l, 2, d, o, g⟩ ⟨k, n, a, f, x⟩) from by unfold rnStep; rw [if_neg (show ¬ (2 : Int) = 3 by decide)]]
        generalize (if k = 1 then rnAck ⟨m, w, l, 2, d, o, g⟩ ⟨k, n, a, f, x⟩ else if k = 3 then rnLate ⟨m, w, l, 2, d, o, g⟩ ⟨k, n, a, f, x⟩ else rnNo ⟨m, w, l, 2, d, o, g⟩ ⟨k, n, a, f, x⟩) = R at hs ⊢
        obtain ⟨R0, R1, R2, R3, R4, R5, R6⟩ := R
        simp only [rnV] at hs ⊢
        have HS := Lib.hid hs
        clear hs
        go_enter Try.func16, Try.ntmps16
        go_wp2_with fail
        refine (HOK.out _).mono ?_
        rintro e w1 ⟨rfl, hg⟩
        have HA := Lib.hid (((Bx.new W 25 #[.int .i64 m, .int .i64 w, .int .i64 l, .int .i64 2, .int .i64 d, .int .i64 o, .int .i64 g]).alloc (.cells #[.int .i64 k, .int .i64 n, .int .i64 a, .int .i64 f, .int .i64 x] 41) |>.alloc (.cells #[.int .i64 0, .int .i64 0, .int .i64 0, .int .i64 0, .int .i64 0, .int .i64 0, .int .i64 0] 25)).keep hg)
        have he := ((Bx.new (W.alloc (.cells #[.int .i64 m, .int .i64 w, .int .i64 l, .int .i64 2, .int .i64 d, .int .i64 o, .int .i64 g] 25)) 41 #[.int .i64 k, .int .i64 n, .int .i64 a, .int .i64 f, .int .i64 x]).alloc (.cells #[.int .i64 0, .int .i64 0, .int .i64 0, .int .i64 0, .int .i64 0, .int .i64 0, .int .i64 0] 25)).keep hg
        have hz := (Bx.new ((W.alloc (.cells #[.int .i64 m, .int .i64 w, .int .i64 l, .int .i64 2, .int .i64 d, .int .i64 o, .int .i64 g] 25)).alloc (.cells #[.int .i64 k, .int .i64 n, .int .i64 a, .int .i64 f, .int .i64 x] 41)) 25 #[.int .i64 0, .int .i64 0, .int .i64 0, .int .i64 0, .int .i64 0, .int .i64 0, .int .i64 0]).keep hg
        simp only [World.size_alloc] at he hz
        have HE := Lib.hid he
        have HZ := Lib.hid hz
        clear he hz
        have HG := Lib.hid (grownBy_trans (gA (gA (gA (World.grownBy.refl W none) _) _) _) hg)
        clear hg
        have a0 : w1.cell? ⟨W.heap.size, 0, none⟩ = some (.int .i64 m) := HA.out.c 0 rfl
        have a1 : w1.cell? ⟨W.heap.size, 1, none⟩ = some (.int .i64 w) := HA.out.c 1 rfl
        have a2 : w1.cell? ⟨W.heap.size, 2, none⟩ = some (.int .i64 l) := HA.out.c 2 rfl
        have a3 : w1.cell? ⟨W.heap.size, 3, none⟩ = some (.int .i64 2) := HA.out.c 3 rfl
        have a4 : w1.cell? ⟨W.heap.size, 4, none⟩ = some (.int .i64 d) := HA.out.c 4 rfl
        have a5 : w1.cell? ⟨W.heap.size, 5, none⟩ = some (.int .i64 o) := HA.out.c 5 rfl
        have a6 : w1.cell? ⟨W.heap.size, 6, none⟩ = some (.int .i64 g) := HA.out.c 6 rfl
        have af0 : w1.frozen? ⟨W.heap.size, 0, none⟩ = false := HA.out.f 0
        have af1 : w1.frozen? ⟨W.heap.size, 1, none⟩ = false := HA.out.f 1
        have af2 : w1.frozen? ⟨W.heap.size, 2, none⟩ = false := HA.out.f 2
        have af3 : w1.frozen? ⟨W.heap.size, 3, none⟩ = false := HA.out.f 3
        have af4 : w1.frozen? ⟨W.heap.size, 4, none⟩ = false := HA.out.f 4
        have af5 : w1.frozen? ⟨W.heap.size, 5, none⟩ = false := HA.out.f 5
        have af6 : w1.frozen? ⟨W.heap.size, 6, none⟩ = false := HA.out.f 6
        have e0 : w1.cell? ⟨W.heap.size + 1, 0, none⟩ = some (.int .i64 k) := HE.out.c 0 rfl
        have e1 : w1.cell? ⟨W.heap.size + 1, 1, none⟩ = some (.int .i64 n) := HE.out.c 1 rfl
        have e2 : w1.cell? ⟨W.heap.size + 1, 2, none⟩ = some (.int .i64 a) := HE.out.c 2 rfl
        have e3 : w1.cell? ⟨W.heap.size + 1, 3, none⟩ = some (.int .i64 f) := HE.out.c 3 rfl
        have e4 : w1.cell? ⟨W.heap.size + 1, 4, none⟩ = some (.int .i64 x) := HE.out.c 4 rfl
        have q0 : w1.cell? ⟨W.heap.size + 1 + 1, 0, none⟩ = some (.int .i64 0) := HZ.out.c 0 rfl
        have q1 : w1.cell? ⟨W.heap.size + 1 + 1, 1, none⟩ = some (.int .i64 0) := HZ.out.c 1 rfl
        have q2 : w1.cell? ⟨W.heap.size + 1 + 1, 2, none⟩ = some (.int .i64 0) := HZ.out.c 2 rfl
        have q3 : w1.cell? ⟨W.heap.size + 1 + 1, 3, none⟩ = some (.int .i64 0) := HZ.out.c 3 rfl
        have q4 : w1.cell? ⟨W.heap.size + 1 + 1, 4, none⟩ = some (.int .i64 0) := HZ.out.c 4 rfl
        have q5 : w1.cell? ⟨W.heap.size + 1 + 1, 5, none⟩ = some (.int .i64 0) := HZ.out.c 5 rfl
        have q6 : w1.cell? ⟨W.heap.size + 1 + 1, 6, none⟩ = some (.int .i64 0) := HZ.out.c 6 rfl
        have qf0 : w1.frozen? ⟨W.heap.size + 1 + 1, 0, none⟩ = false := HZ.out.f 0
        have qf1 : w1.frozen? ⟨W.heap.size + 1 + 1, 1, none⟩ = false := HZ.out.f 1
        have qf2 : w1.frozen? ⟨W.heap.size + 1 + 1, 2, none⟩ = false := HZ.out.f 2
        have qf3 : w1.frozen? ⟨W.heap.size + 1 + 1, 3, none⟩ = false := HZ.out.f 3
        have qf4 : w1.frozen? ⟨W.heap.size + 1 + 1, 4, none⟩ = false := HZ.out.f 4
        have qf5 : w1.frozen? ⟨W.heap.size + 1 + 1, 5, none⟩ = false := HZ.out.f 5
        have qf6 : w1.frozen? ⟨W.heap.size + 1 + 1, 6, none⟩ = false := HZ.out.f 6
        have l1 : W.heap.size < w1.heap.size := HA.out.lt
        have l2 : W.heap.size + 1 < w1.heap.size := HE.out.lt
        have l3 : W.heap.size + 1 + 1 < w1.heap.size := HZ.out.lt
        go_wp2_with fail
        refine (HEV.out _).mono ?_
        rintro e w2 ⟨rfl, rfl⟩
        go_wp2_with fail
        obtain ⟨w3, hw3⟩ : ∃ w3, w3 = (w1.alloc (.cells #[.int .i64 k, .int .i64 n, .int .i64 a, .int .i64 f, .int .i64 x] 41)).alloc (.cells #[.nilFunc, .func (.func 29) #[] #[], .func (.func 30) #[] #[], .func (.func 31) #[] #[]] 55) := ⟨_, rfl⟩
        rw [← hw3]
        have hF : Bx w3 (w1.heap.size + 1) 55 #[.nilFunc, .func (.func 29) #[] #[], .func (.func 30) #[] #[], .func (.func 31) #[] #[]] := by
          have h := Bx.new (w1.alloc (.cells #[.int .i64 k, .int .i64 n, .int .i64 a, .int .i64 f, .int .i64 x] 41)) 55 #[.nilFunc, .func (.func 29) #[] #[], .func (.func 30) #[] #[], .func (.func 31) #[] #[]]
          rw [← hw3] at h
          simp only [World.size_alloc] at h
          exact h
        have hg3 : w1.grownBy w3 none := hw3 ▸ gA (gA (World.grownBy.refl _ _) _) _
        have HA3 := Lib.hid (HA.out.keep hg3)
        have HE3 := Lib.hid (HE.out.keep hg3)
        have HZ3 := Lib.hid (HZ.out.keep hg3)
        have HG3 := Lib.hid (grownBy_trans HG.out hg3)
        have HF := Lib.hid hF
        generalize w1.heap.size + 1 = B at *
        clear hF hw3 hg3 HA HE HZ HG l1 l2 l3 a0 af0 a1 af1 a2 af2 a3 af3 a4 af4 a5 af5 a6 af6 e0 e1 e2 e3 e4 q0 qf0 q1 qf1 q2 qf2 q3 qf3 q4 qf4 q5 qf5 q6 qf6
        have a0 : w3.cell? ⟨W.heap.size, 0, none⟩ = some (.int .i64 m) := HA3.out.c 0 rfl
        have a1 : w3.cell? ⟨W.heap.size, 1, none⟩ = some (.int .i64 w) := HA3.out.c 1 rfl
        have a2 : w3.cell? ⟨W.heap.size, 2, none⟩ = some (.int .i64 l) := HA3.out.c 2 rfl
        have a3 : w3.cell? ⟨W.heap.size, 3, none⟩ = some (.int .i64 2) := HA3.out.c 3 rfl
        have a4 : w3.cell? ⟨W.heap.size, 4, none⟩ = some (.int .i64 d) := HA3.out.c 4 rfl
        have a5 : w3.cell? ⟨W.heap.size, 5, none⟩ = some (.int .i64 o) := HA3.out.c 5 rfl
        have a6 : w3.cell? ⟨W.heap.size, 6, none⟩ = some (.int .i64 g) := HA3.out.c 6 rfl
        have af0 : w3.frozen? ⟨W.heap.size, 0, none⟩ = false := HA3.out.f 0
        have af1 : w3.frozen? ⟨W.heap.size, 1, none⟩ = false := HA3.out.f 1
        have af2 : w3.frozen? ⟨W.heap.size, 2, none⟩ = false := HA3.out.f 2
        have af3 : w3.frozen? ⟨W.heap.size, 3, none⟩ = false := HA3.out.f 3
        have af4 : w3.frozen? ⟨W.heap.size, 4, none⟩ = false := HA3.out.f 4
        have af5 : w3.frozen? ⟨W.heap.size, 5, none⟩ = false := HA3.out.f 5
        have af6 : w3.frozen? ⟨W.heap.size, 6, none⟩ = false := HA3.out.f 6
        have e0 : w3.cell? ⟨W.heap.size + 1, 0, none⟩ = some (.int .i64 k) := HE3.out.c 0 rfl
        have e1 : w3.cell? ⟨W.heap.size + 1, 1, none⟩ = some (.int .i64 n) := HE3.out.c 1 rfl
        have e2 : w3.cell? ⟨W.heap.size + 1, 2, none⟩ = some (.int .i64 a) := HE3.out.c 2 rfl
        have e3 : w3.cell? ⟨W.heap.size + 1, 3, none⟩ = some (.int .i64 f) := HE3.out.c 3 rfl
        have e4 : w3.cell? ⟨W.heap.size + 1, 4, none⟩ = some (.int .i64 x) := HE3.out.c 4 rfl
        have q0 : w3.cell? ⟨W.heap.size + 1 + 1, 0, none⟩ = some (.int .i64 0) := HZ3.out.c 0 rfl
        have q1 : w3.cell? ⟨W.heap.size + 1 + 1, 1, none⟩ = some (.int .i64 0) := HZ3.out.c 1 rfl
        have q2 : w3.cell? ⟨W.heap.size + 1 + 1, 2, none⟩ = some (.int .i64 0) := HZ3.out.c 2 rfl
        have q3 : w3.cell? ⟨W.heap.size + 1 + 1, 3, none⟩ = some (.int .i64 0) := HZ3.out.c 3 rfl
        have q4 : w3.cell? ⟨W.heap.size + 1 + 1, 4, none⟩ = some (.int .i64 0) := HZ3.out.c 4 rfl
        have q5 : w3.cell? ⟨W.heap.size + 1 + 1, 5, none⟩ = some (.int .i64 0) := HZ3.out.c 5 rfl
        have q6 : w3.cell? ⟨W.heap.size + 1 + 1, 6, none⟩ = some (.int .i64 0) := HZ3.out.c 6 rfl
        have qf0 : w3.frozen? ⟨W.heap.size + 1 + 1, 0, none⟩ = false := HZ3.out.f 0
        have qf1 : w3.frozen? ⟨W.heap.size + 1 + 1, 1, none⟩ = false := HZ3.out.f 1
        have qf2 : w3.frozen? ⟨W.heap.size + 1 + 1, 2, none⟩ = false := HZ3.out.f 2
        have qf3 : w3.frozen? ⟨W.heap.size + 1 + 1, 3, none⟩ = false := HZ3.out.f 3
        have qf4 : w3.frozen? ⟨W.heap.size + 1 + 1, 4, none⟩ = false := HZ3.out.f 4
        have qf5 : w3.frozen? ⟨W.heap.size + 1 + 1, 5, none⟩ = false := HZ3.out.f 5
        have qf6 : w3.frozen? ⟨W.heap.size + 1 + 1, 6, none⟩ = false := HZ3.out.f 6
        have fn : w3.cell? ⟨B, 2, none⟩ = some (.func (.func 30) #[] #[]) := HF.out.c 2 rfl
        go_still_tail 6, (by kernel_rfl)
        go_wp2_with fail
        refine (HS.out _).mono ?_
        rintro e w9 ⟨rfl, hg⟩
        have HG9 := Lib.hid (grownBy_trans (gd HG3.out) hg)
        have HZ9 := Lib.hid ((HZ3.out.keep grownBy_drew).keep hg)
        clear hg q0 qf0 q1 qf1 q2 qf2 q3 qf3 q4 qf4 q5 qf5 q6 qf6
        have q0 : w9.cell? ⟨W.heap.size + 1 + 1, 0, none⟩ = some (.int .i64 0) := HZ9.out.c 0 rfl
        have q1 : w9.cell? ⟨W.heap.size + 1 + 1, 1, none⟩ = some (.int .i64 0) := HZ9.out.c 1 rfl
        have q2 : w9.cell? ⟨W.heap.size + 1 + 1, 2, none⟩ = some (.int .i64 0) := HZ9.out.c 2 rfl
        have q3 : w9.cell? ⟨W.heap.size + 1 + 1, 3, none⟩ = some (.int .i64 0) := HZ9.out.c 3 rfl
        have q4 : w9.cell? ⟨W.heap.size + 1 + 1, 4, none⟩ = some (.int .i64 0) := HZ9.out.c 4 rfl
        have q5 : w9.cell? ⟨W.heap.size + 1 + 1, 5, none⟩ = some (.int .i64 0) := HZ9.out.c 5 rfl
        have q6 : w9.cell? ⟨W.heap.size + 1 + 1, 6, none⟩ = some (.int .i64 0) := HZ9.out.c 6 rfl
        have qf0 : w9.frozen? ⟨W.heap.size + 1 + 1, 0, none⟩ = false := HZ9.out.f 0
        have qf1 : w9.frozen? ⟨W.heap.size + 1 + 1, 1, none⟩ = false := HZ9.out.f 1
        have qf2 : w9.frozen? ⟨W.heap.size + 1 + 1, 2, none⟩ = false := HZ9.out.f 2
        have qf3 : w9.frozen? ⟨W.heap.size + 1 + 1, 3, none⟩ = false := HZ9.out.f 3
        have qf4 : w9.frozen? ⟨W.heap.size + 1 + 1, 4, none⟩ = false := HZ9.out.f 4
        have qf5 : w9.frozen? ⟨W.heap.size + 1 + 1, 5, none⟩ = false := HZ9.out.f 5
        have qf6 : w9.frozen? ⟨W.heap.size + 1 + 1, 6, none⟩ = false := HZ9.out.f 6
        go_wp2_with fail
        exact bodyPost_ret (v := .tuple #[.agg #[.int .i64 R0, .int .i64 R1, .int .i64 R2, .int .i64 R3, .int .i64 R4, .int .i64 R5, .int .i64 R6], .bool true]) (by simp [results, Try.results16, go_sem, q0, q1, q2, q3, q4, q5, q6]) rfl ⟨rfl, by repeat (first | with_reducible refine gS ?_ (by first | omega | (simp; omega)) _ _ | with_reducible exact HG9.out)⟩
      · have hs := fun W => rn_mend m w l 3 o 0 k n a f x W ⟨h1, h2⟩ ⟨h3, h4⟩ (by omega) ⟨e2, e3⟩ hn hk
        generalize rnStep ⟨m, w, l, 3, 3, o, 0⟩ ⟨k, n, a, f, x⟩ = R at hs ⊢
        obtain ⟨R0, R1, R2, R3, R4, R5, R6⟩ := R
        simp only [rnV] at hs ⊢
        have HS := Lib.hid hs
        clear hs
        go_enter Try.func16, Try.ntmps16
        go_wp2_with fail
        refine (HOK.out _).mono ?_
        rintro e w1 ⟨rfl, hg⟩
        have HA := Lib.hid (((Bx.new W 25 #[.int .i64 m, .int .i64 w, .int .i64 l, .int .i64 3, .int .i64 3, .int .i64 o, .int .i64 0]).alloc (.cells #[.int .i64 k, .int .i64 n, .int .i64 a, .int .i64 f, .int .i64 x] 41) |>.alloc (.cells #[.int .i64 0, .int .i64 0, .int .i64 0, .int .i64 0, .int .i64 0, .int .i64 0, .int .i64 0] 25)).keep hg)
        have he := ((Bx.new (W.alloc (.cells #[.int .i64 m, .int .i64 w, .int .i64 l, .int .i64 3, .int .i64 3, .int .i64 o, .int .i64 0] 25)) 41 #[.int .i64 k, .int .i64 n, .int .i64 a, .int .i64 f, .int .i64 x]).alloc (.cells #[.int .i64 0, .int .i64 0, .int .i64 0, .int .i64 0, .int .i64 0, .int .i64 0, .int .i64 0] 25)).keep hg
        have hz := (Bx.new ((W.alloc (.cells #[.int .i64 m, .int .i64 w, .int .i64 l, .int .i64 3, .int .i64 3, .int .i64 o, .int .i64 0] 25)).alloc (.cells #[.int .i64 k, .int .i64 n, .int .i64 a, .int .i64 f, .int .i64 x] 41)) 25 #[.int .i64 0, .int .i64 0, .int .i64 0, .int .i64 0, .int .i64 0, .int .i64 0, .int .i64 0]).keep hg
        simp only [World.size_alloc] at he hz
        have HE := Lib.hid he
        have HZ := Lib.hid hz
        clear he hz
        have HG := Lib.hid (grownBy_trans (gA (gA (gA (World.grownBy.refl W none) _) _) _) hg)
        clear hg
        have a0 : w1.cell? ⟨W.heap.size, 0, none⟩ = some (.int .i64 m) := HA.out.c 0 rfl
        have a1 : w1.cell? ⟨W.heap.size, 1, none⟩ = some (.int .i64 w) := HA.out.c 1 rfl
        have a2 : w1.cell? ⟨W.heap.size, 2, none⟩ = some (.int .i64 l) := HA.out.c 2 rfl
        have a3 : w1.cell? ⟨W.heap.size, 3, none⟩ = some (.int .i64 3) := HA.out.c 3 rfl
        have a4 : w1.cell? ⟨W.heap.size, 4, none⟩ = some (.int .i64 3) := HA.out.c 4 rfl
        have a5 : w1.cell? ⟨W.heap.size, 5, none⟩ = some (.int .i64 o) := HA.out.c 5 rfl
        have a6 : w1.cell? ⟨W.heap.size, 6, none⟩ = some (.int .i64 0) := HA.out.c 6 rfl
        have af0 : w1.frozen? ⟨W.heap.size, 0, none⟩ = false := HA.out.f 0
        have af1 : w1.frozen? ⟨W.heap.size, 1, none⟩ = false := HA.out.f 1
        have af2 : w1.frozen? ⟨W.heap.size, 2, none⟩ = false := HA.out.f 2
        have af3 : w1.frozen? ⟨W.heap.size, 3, none⟩ = false := HA.out.f 3
        have af4 : w1.frozen? ⟨W.heap.size, 4, none⟩ = false := HA.out.f 4
        have af5 : w1.frozen? ⟨W.heap.size, 5, none⟩ = false := HA.out.f 5
        have af6 : w1.frozen? ⟨W.heap.size, 6, none⟩ = false := HA.out.f 6
        have e0 : w1.cell? ⟨W.heap.size + 1, 0, none⟩ = some (.int .i64 k) := HE.out.c 0 rfl
        have e1 : w1.cell? ⟨W.heap.size + 1, 1, none⟩ = some (.int .i64 n) := HE.out.c 1 rfl
        have e2 : w1.cell? ⟨W.heap.size + 1, 2, none⟩ = some (.int .i64 a) := HE.out.c 2 rfl
        have e3 : w1.cell? ⟨W.heap.size + 1, 3, none⟩ = some (.int .i64 f) := HE.out.c 3 rfl
        have e4 : w1.cell? ⟨W.heap.size + 1, 4, none⟩ = some (.int .i64 x) := HE.out.c 4 rfl
        have q0 : w1.cell? ⟨W.heap.size + 1 + 1, 0, none⟩ = some (.int .i64 0) := HZ.out.c 0 rfl
        have q1 : w1.cell? ⟨W.heap.size + 1 + 1, 1, none⟩ = some (.int .i64 0) := HZ.out.c 1 rfl
        have q2 : w1.cell? ⟨W.heap.size + 1 + 1, 2, none⟩ = some (.int .i64 0) := HZ.out.c 2 rfl
        have q3 : w1.cell? ⟨W.heap.size + 1 + 1, 3, none⟩ = some (.int .i64 0) := HZ.out.c 3 rfl
        have q4 : w1.cell? ⟨W.heap.size + 1 + 1, 4, none⟩ = some (.int .i64 0) := HZ.out.c 4 rfl
        have q5 : w1.cell? ⟨W.heap.size + 1 + 1, 5, none⟩ = some (.int .i64 0) := HZ.out.c 5 rfl
        have q6 : w1.cell? ⟨W.heap.size + 1 + 1, 6, none⟩ = some (.int .i64 0) := HZ.out.c 6 rfl
        have qf0 : w1.frozen? ⟨W.heap.size + 1 + 1, 0, none⟩ = false := HZ.out.f 0
        have qf1 : w1.frozen? ⟨W.heap.size + 1 + 1, 1, none⟩ = false := HZ.out.f 1
        have qf2 : w1.frozen? ⟨W.heap.size + 1 + 1, 2, none⟩ = false := HZ.out.f 2
        have qf3 : w1.frozen? ⟨W.heap.size + 1 + 1, 3, none⟩ = false := HZ.out.f 3
        have qf4 : w1.frozen? ⟨W.heap.size + 1 + 1, 4, none⟩ = false := HZ.out.f 4
        have qf5 : w1.frozen? ⟨W.heap.size + 1 + 1, 5, none⟩ = false := HZ.out.f 5
        have qf6 : w1.frozen? ⟨W.heap.size + 1 + 1, 6, none⟩ = false := HZ.out.f 6
        have l1 : W.heap.size < w1.heap.size := HA.out.lt
        have l2 : W.heap.size + 1 < w1.heap.size := HE.out.lt
        have l3 : W.heap.size + 1 + 1 < w1.heap.size := HZ.out.lt
        go_wp2_with fail
        refine (HEV.out _).mono ?_
        rintro e w2 ⟨rfl, rfl⟩
        go_wp2_with fail
        obtain ⟨w3, hw3⟩ : ∃ w3, w3 = (w1.alloc (.cells #[.int .i64 k, .int .i64 n, .int .i64 a, .int .i64 f, .int .i64 x] 41)).alloc (.cells #[.nilFunc, .func (.func 29) #[] #[], .func (.func 30) #[] #[], .func (.func 31) #[] #[]] 55) := ⟨_, rfl⟩
        rw [← hw3]
        have hF : Bx w3 (w1.heap.size + 1) 55 #[.nilFunc, .func (.func 29) #[] #[], .func (.func 30) #[] #[], .func (.func 31) #[] #[]] := by
          have h := Bx.new (w1.alloc (.cells #[.int .i64 k, .int .i64 n, .int .i64 a, .int .i64 f, .int .i64 x] 41)) 55 #[.nilFunc, .func (.func 29) #[] #[], .func (.func 30) #[] #[], .func (.func 31) #[] #[]]
          rw [← hw3] at h
          simp only [World.size_alloc] at h
          exact h
        have hg3 : w1.grownBy w3 none := hw3 ▸ gA (gA (World.grownBy.refl _ _) _) _
        have HA3 := Lib.hid (HA.out.keep hg3)
        have HE3 := Lib.hid (HE.out.keep hg3)
        have HZ3 := Lib.hid (HZ.out.keep hg3)
        have HG3 := Lib.hid (grownBy_trans HG.out hg3)
        have HF := Lib.hid hF
        generalize w1.heap.size + 1 = B at *
        clear hF hw3 hg3 HA HE HZ HG l1 l2 l3 a0 af0 a1 af1 a2 af2 a3 af3 a4 af4 a5 af5 a6 af6 e0 e1 e2 e3 e4 q0 qf0 q1 qf1 q2 qf2 q3 qf3 q4 qf4 q5 qf5 q6 qf6
        have a0 : w3.cell? ⟨W.heap.size, 0, none⟩ = some (.int .i64 m) := HA3.out.c 0 rfl
        have a1 : w3.cell? ⟨W.heap.size, 1, none⟩ = some (.int .i64 w) := HA3.out.c 1 rfl
        have a2 : w3.cell? ⟨W.heap.size, 2, none⟩ = some (.int .i64 l) := HA3.out.c 2 rfl
        have a3 : w3.cell? ⟨W.heap.size, 3, none⟩ = some (.int .i64 3) := HA3.out.c 3 rfl
        have a4 : w3.cell? ⟨W.heap.size, 4, none⟩ = some (.int .i64 3) := HA3.out.c 4 rfl
        have a5 : w3.cell? ⟨W.heap.size, 5, none⟩ = some (.int .i64 o) := HA3.out.c 5 rfl
        have a6 : w3.cell? ⟨W.heap.size, 6, none⟩ = some (.int .i64 0) := HA3.out.c 6 rfl
        have af0 : w3.frozen? ⟨W.heap.size, 0, none⟩ = false := HA3.out.f 0
        have af1 : w3.frozen? ⟨W.heap.size, 1, none⟩ = false := HA3.out.f 1
        have af2 : w3.frozen? ⟨W.heap.size, 2, none⟩ = false := HA3.out.f 2
        have af3 : w3.frozen? ⟨W.heap.size, 3, none⟩ = false := HA3.out.f 3
        have af4 : w3.frozen? ⟨W.heap.size, 4, none⟩ = false := HA3.out.f 4
        have af5 : w3.frozen? ⟨W.heap.size, 5, none⟩ = false := HA3.out.f 5
        have af6 : w3.frozen? ⟨W.heap.size, 6, none⟩ = false := HA3.out.f 6
        have e0 : w3.cell? ⟨W.heap.size + 1, 0, none⟩ = some (.int .i64 k) := HE3.out.c 0 rfl
        have e1 : w3.cell? ⟨W.heap.size + 1, 1, none⟩ = some (.int .i64 n) := HE3.out.c 1 rfl
        have e2 : w3.cell? ⟨W.heap.size + 1, 2, none⟩ = some (.int .i64 a) := HE3.out.c 2 rfl
        have e3 : w3.cell? ⟨W.heap.size + 1, 3, none⟩ = some (.int .i64 f) := HE3.out.c 3 rfl
        have e4 : w3.cell? ⟨W.heap.size + 1, 4, none⟩ = some (.int .i64 x) := HE3.out.c 4 rfl
        have q0 : w3.cell? ⟨W.heap.size + 1 + 1, 0, none⟩ = some (.int .i64 0) := HZ3.out.c 0 rfl
        have q1 : w3.cell? ⟨W.heap.size + 1 + 1, 1, none⟩ = some (.int .i64 0) := HZ3.out.c 1 rfl
        have q2 : w3.cell? ⟨W.heap.size + 1 + 1, 2, none⟩ = some (.int .i64 0) := HZ3.out.c 2 rfl
        have q3 : w3.cell? ⟨W.heap.size + 1 + 1, 3, none⟩ = some (.int .i64 0) := HZ3.out.c 3 rfl
        have q4 : w3.cell? ⟨W.heap.size + 1 + 1, 4, none⟩ = some (.int .i64 0) := HZ3.out.c 4 rfl
        have q5 : w3.cell? ⟨W.heap.size + 1 + 1, 5, none⟩ = some (.int .i64 0) := HZ3.out.c 5 rfl
        have q6 : w3.cell? ⟨W.heap.size + 1 + 1, 6, none⟩ = some (.int .i64 0) := HZ3.out.c 6 rfl
        have qf0 : w3.frozen? ⟨W.heap.size + 1 + 1, 0, none⟩ = false := HZ3.out.f 0
        have qf1 : w3.frozen? ⟨W.heap.size + 1 + 1, 1, none⟩ = false := HZ3.out.f 1
        have qf2 : w3.frozen? ⟨W.heap.size + 1 + 1, 2, none⟩ = false := HZ3.out.f 2
        have qf3 : w3.frozen? ⟨W.heap.size + 1 + 1, 3, none⟩ = false := HZ3.out.f 3
        have qf4 : w3.frozen? ⟨W.heap.size + 1 + 1, 4, none⟩ = false := HZ3.out.f 4
        have qf5 : w3.frozen? ⟨W.heap.size + 1 + 1, 5, none⟩ = false := HZ3.out.f 5
        have qf6 : w3.frozen? ⟨W.heap.size + 1 + 1, 6, none⟩ = false := HZ3.out.f 6
        have fn : w3.cell? ⟨B, 3, none⟩ = some (.func (.func 31) #[] #[]) := HF.out.c 3 rfl
        go_still_tail 6, (by kernel_rfl)
        go_wp2_with fail
        refine (HS.out _).mono ?_
        rintro e w9 ⟨rfl, hg⟩
        have HG9 := Lib.hid (grownBy_trans (gd HG3.out) hg)
        have HZ9 := Lib.hid ((HZ3.out.keep grownBy_drew).keep hg)
        clear hg q0 qf0 q1 qf1 q2 qf2 q3 qf3 q4 qf4 q5 qf5 q6 qf6
        have q0 : w9.cell? ⟨W.heap.size + 1 + 1, 0, none⟩ = some (.int .i64 0) := HZ9.out.c 0 rfl
        have q1 : w9.cell? ⟨W.heap.size + 1 + 1, 1, none⟩ = some (.int .i64 0) := HZ9.out.c 1 rfl
        have q2 : w9.cell? ⟨W.heap.size + 1 + 1, 2, none⟩ = some (.int .i64 0) := HZ9.out.c 2 rfl
        have q3 : w9.cell? ⟨W.heap.size + 1 + 1, 3, none⟩ = some (.int .i64 0) := HZ9.out.c 3 rfl
        have q4 : w9.cell? ⟨W.heap.size + 1 + 1, 4, none⟩ = some (.int .i64 0) := HZ9.out.c 4 rfl
        have q5 : w9.cell? ⟨W.heap.size + 1 + 1, 5, none⟩ = some (.int .i64 0) := HZ9.out.c 5 rfl
        have q6 : w9.cell? ⟨W.heap.size + 1 + 1, 6, none⟩ = some (.int .i64 0) := HZ9.out.c 6 rfl
        have qf0 : w9.frozen? ⟨W.heap.size + 1 + 1, 0, none⟩ = false := HZ9.out.f 0
        have qf1 : w9.frozen? ⟨W.heap.size + 1 + 1, 1, none⟩ = false := HZ9.out.f 1
        have qf2 : w9.frozen? ⟨W.heap.size + 1 + 1, 2, none⟩ = false := HZ9.out.f 2
        have qf3 : w9.frozen? ⟨W.heap.size + 1 + 1, 3, none⟩ = false := HZ9.out.f 3
        have qf4 : w9.frozen? ⟨W.heap.size + 1 + 1, 4, none⟩ = false := HZ9.out.f 4
        have qf5 : w9.frozen? ⟨W.heap.size + 1 + 1, 5, none⟩ = false := HZ9.out.f 5
        have qf6 : w9.frozen? ⟨W.heap.size + 1 + 1, 6, none⟩ = false := HZ9.out.f 6
        go_wp2_with fail
        exact bodyPost_ret (v := .tuple #[.agg #[.int .i64 R0, .int .i64 R1, .int .i64 R2, .int .i64 R3, .int .i64 R4, .int .i64 R5, .int .i64 R6], .bool true]) (by simp [results, Try.results16, go_sem, q0, q1, q2, q3, q4, q5, q6]) rfl ⟨rfl, by repeat (first | with_reducible refine gS ?_ (by first | omega | (simp; omega)) _ _ | with_reducible exact HG9.out)⟩

end Go.Proofs.Ytklbnpnngfoecaa
