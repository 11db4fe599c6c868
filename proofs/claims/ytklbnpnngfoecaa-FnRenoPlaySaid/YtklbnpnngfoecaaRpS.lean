/- Windows: the model's play of events. -/
import Derived.Test.YtklbnpnngfoecaaRpI
import Derived.StillTailTactics
import Derived.Deep.DeepCutAuto
namespace Go.Proofs.Ytklbnpnngfoecaa
open Go.RowKit

theorem rs_okg (m w l p d o g : Int) (W : World) : Calls Try.prog 17 #[.agg #[.int .i64 m, .int .i64 w, .int .i64 l, .int .i64 p, .int .i64 d, .int .i64 o, .int .i64 g]] W fun e w' => e = .returned (.bool (rnOk ⟨m, w, l, p, d, o, g⟩)) ∧ W.grownBy w' none :=
  (rn_okS m w l p d o g W).mono fun _ _ ⟨h, k⟩ => ⟨h, k ▸ gA (World.grownBy.refl _ _) _⟩

set_option maxRecDepth 100000 in
set_option maxHeartbeats 4000000 in
theorem rp_spec (m w l p d o g : Int) (ao : Option Addr) (cap : Nat) (t : List Ev) (W : World) (h : EvAt W ao t) (ht : t.length ≤ 1048576) : Calls Try.prog 7 #[.agg #[.int .i64 m, .int .i64 w, .int .i64 l, .int .i64 p, .int .i64 d, .int .i64 o, .int .i64 g], .slice ao t.length cap] W fun e w' => e = .returned (plV ⟨m, w, l, p, d, o, g⟩ t) ∧ W.grownBy w' none := by
  have H := Lib.hid h
  clear h
  have hok := fun W => rs_okg m w l p d o g W
  cases g1 : rnOk ⟨m, w, l, p, d, o, g⟩
  · rw [show plV ⟨m, w, l, p, d, o, g⟩ t = .tuple #[rnV rnZ, .int .i64 (-1)] from if_neg (fun k => by rw [g1] at k; exact absurd k.1 (by decide))]
    rw [g1] at hok
    have HOK := Lib.hid hok
    clear hok g1
    simp only [rnV, rnZ]
    go_enter Try.func7, Try.ntmps7
    go_wp2_with fail
    refine (HOK.out _).mono ?_
    rintro e w1 ⟨rfl, hg⟩
    have hz := (Bx.new (W.alloc (.cells #[.int .i64 m, .int .i64 w, .int .i64 l, .int .i64 p, .int .i64 d, .int .i64 o, .int .i64 g] 25)) 25 #[.int .i64 0, .int .i64 0, .int .i64 0, .int .i64 0, .int .i64 0, .int .i64 0, .int .i64 0]).keep hg
    simp only [World.size_alloc] at hz
    have HA := Lib.hid (((Bx.new W 25 #[.int .i64 m, .int .i64 w, .int .i64 l, .int .i64 p, .int .i64 d, .int .i64 o, .int .i64 g]).alloc (.cells #[.int .i64 0, .int .i64 0, .int .i64 0, .int .i64 0, .int .i64 0, .int .i64 0, .int .i64 0] 25)).keep hg)
    have HZ := Lib.hid hz
    have HG := Lib.hid (grownBy_trans (gA (gA (World.grownBy.refl W none) _) _) hg)
    clear hg hz
    have z0 := HZ.out.c 0 (x := .int .i64 0) rfl
    have z1 := HZ.out.c 1 (x := .int .i64 0) rfl
    have z2 := HZ.out.c 2 (x := .int .i64 0) rfl
    have z3 := HZ.out.c 3 (x := .int .i64 0) rfl
    have z4 := HZ.out.c 4 (x := .int .i64 0) rfl
    have z5 := HZ.out.c 5 (x := .int .i64 0) rfl
    have z6 := HZ.out.c 6 (x := .int .i64 0) rfl
    have zf0 := HZ.out.f 0
    have zf1 := HZ.out.f 1
    have zf2 := HZ.out.f 2
    have zf3 := HZ.out.f 3
    have zf4 := HZ.out.f 4
    have zf5 := HZ.out.f 5
    have zf6 := HZ.out.f 6
    go_wp2_with fail
    exact bodyPost_ret (v := .tuple #[.agg #[.int .i64 0, .int .i64 0, .int .i64 0, .int .i64 0, .int .i64 0, .int .i64 0, .int .i64 0], .int .i64 (-1)]) (by simp [results, Try.results7, go_sem, z0, z1, z2, z3, z4, z5, z6]) rfl ⟨rfl, by repeat (first | with_reducible refine gS ?_ (by first | omega | (simp; omega)) _ _ | with_reducible refine gA ?_ _ | with_reducible refine gD ?_ _ | with_reducible refine gd ?_ | with_reducible exact HG.out)⟩
  · rw [g1] at hok
    have HOK := Lib.hid hok
    clear hok
    by_cases hl : 200 < (t.length : Int)
    · rw [show plV ⟨m, w, l, p, d, o, g⟩ t = .tuple #[rnV rnZ, .int .i64 (-1)] from if_neg (fun k => by have := k.2; omega)]
      simp only [rnV, rnZ]
      go_enter Try.func7, Try.ntmps7
      go_wp2_with fail
      refine (HOK.out _).mono ?_
      rintro e w1 ⟨rfl, hg⟩
      have hz := (Bx.new (W.alloc (.cells #[.int .i64 m, .int .i64 w, .int .i64 l, .int .i64 p, .int .i64 d, .int .i64 o, .int .i64 g] 25)) 25 #[.int .i64 0, .int .i64 0, .int .i64 0, .int .i64 0, .int .i64 0, .int .i64 0, .int .i64 0]).keep hg
      simp only [World.size_alloc] at hz
      have HA := Lib.hid (((Bx.new W 25 #[.int .i64 m, .int .i64 w, .int .i64 l, .int .i64 p, .int .i64 d, .int .i64 o, .int .i64 g]).alloc (.cells #[.int .i64 0, .int .i64 0, .int .i64 0, .int .i64 0, .int .i64 0, .int .i64 0, .int .i64 0] 25)).keep hg)
      have HZ := Lib.hid hz
      have HG := Lib.hid (grownBy_trans (gA (gA (World.grownBy.refl W none) _) _) hg)
      clear hg hz
      have z0 := HZ.out.c 0 (x := .int .i64 0) rfl
      have z1 := HZ.out.c 1 (x := .int .i64 0) rfl
      have z2 := HZ.out.c 2 (x := .int .i64 0) rfl
      have z3 := HZ.out.c 3 (x := .int .i64 0) rfl
      have z4 := HZ.out.c 4 (x := .int .i64 0) rfl
      have z5 := HZ.out.c 5 (x := .int .i64 0) rfl
      have z6 := HZ.out.c 6 (x := .int .i64 0) rfl
      have zf0 := HZ.out.f 0
      have zf1 := HZ.out.f 1
      have zf2 := HZ.out.f 2
      have zf3 := HZ.out.f 3
      have zf4 := HZ.out.f 4
      have zf5 := HZ.out.f 5
      have zf6 := HZ.out.f 6
      go_wp2_with fail
      exact bodyPost_ret (v := .tuple #[.agg #[.int .i64 0, .int .i64 0, .int .i64 0, .int .i64 0, .int .i64 0, .int .i64 0, .int .i64 0], .int .i64 (-1)]) (by simp [results, Try.results7, go_sem, z0, z1, z2, z3, z4, z5, z6]) rfl ⟨rfl, by repeat (first | with_reducible refine gS ?_ (by first | omega | (simp; omega)) _ _ | with_reducible refine gA ?_ _ | with_reducible refine gD ?_ _ | with_reducible refine gd ?_ | with_reducible exact HG.out)⟩
    · rw [show plV ⟨m, w, l, p, d, o, g⟩ t = .tuple #[rnV (play ⟨m, w, l, p, d, o, g⟩ t).1, .int .i64 ((play ⟨m, w, l, p, d, o, g⟩ t).2 : Nat)] from if_pos ⟨g1, by omega⟩]
      obtain ⟨r0, hr0⟩ : ∃ r0 : Rn, r0 = ⟨m, w, l, p, d, o, g⟩ := ⟨_, rfl⟩
      rw [← hr0]
      obtain ⟨⟨⟨P0, P1, P2, P3, P4, P5, P6⟩, PN⟩, hP⟩ : ∃ q, q = play r0 t := ⟨_, rfl⟩
      rw [← hP]
      simp only [rnV]
      have HP := Lib.hid hP
      clear hP
      have hp0 : PlayAt r0 t 0 ⟨m, w, l, p, d, o, g⟩ := hr0 ▸ PlayAt.start _ _
      have HP0 := Lib.hid (And.intro hp0 g1)
      clear hp0 hr0 g1
      go_enter Try.func7, Try.ntmps7
      go_wp2_with fail
      refine (HOK.out _).mono ?_
      rintro e w1 ⟨rfl, hg⟩
      have hz := (Bx.new (W.alloc (.cells #[.int .i64 m, .int .i64 w, .int .i64 l, .int .i64 p, .int .i64 d, .int .i64 o, .int .i64 g] 25)) 25 #[.int .i64 0, .int .i64 0, .int .i64 0, .int .i64 0, .int .i64 0, .int .i64 0, .int .i64 0]).keep hg
      simp only [World.size_alloc] at hz
      have HA := Lib.hid (((Bx.new W 25 #[.int .i64 m, .int .i64 w, .int .i64 l, .int .i64 p, .int .i64 d, .int .i64 o, .int .i64 g]).alloc (.cells #[.int .i64 0, .int .i64 0, .int .i64 0, .int .i64 0, .int .i64 0, .int .i64 0, .int .i64 0] 25)).keep hg)
      have HZ := Lib.hid hz
      have HG := Lib.hid (grownBy_trans (gA (gA (World.grownBy.refl W none) _) _) hg)
      clear hg hz
      go_wp2_with fail
      go_loopw [6] (fun i wr => RpRel W r0 t i wr) (fun i _ => t.length - (intOf i).toNat)
      case atStart => exact ⟨0, m, w, l, p, d, o, g, Nat.zero_le _, rfl, HP0.out.2, HP0.out.1, HA.out, HZ.out, HG.out⟩
      case round =>
        clear HA HZ HG HP0 HOK
        obtain ⟨j, m, w, l, p, d, o, g, hj, rfl, hok, hpl, ha, hz, hg⟩ := hrel
        have HS := Lib.hid (And.intro hok hpl)
        have HA := Lib.hid ha
        have HZ := Lib.hid hz
        have HG := Lib.hid hg
        clear hok hpl ha hz hg
        have c0 := HA.out.c 0 (x := .int .i64 m) rfl
        have c1 := HA.out.c 1 (x := .int .i64 w) rfl
        have c2 := HA.out.c 2 (x := .int .i64 l) rfl
        have c3 := HA.out.c 3 (x := .int .i64 p) rfl
        have c4 := HA.out.c 4 (x := .int .i64 d) rfl
        have c5 := HA.out.c 5 (x := .int .i64 o) rfl
        have c6 := HA.out.c 6 (x := .int .i64 g) rfl
        have cf0 := HA.out.f 0
        have cf1 := HA.out.f 1
        have cf2 := HA.out.f 2
        have cf3 := HA.out.f 3
        have cf4 := HA.out.f 4
        have cf5 := HA.out.f 5
        have cf6 := HA.out.f 6
        have la := HA.out.lt
        have lz := HZ.out.lt
        by_cases hlt : j < t.length
        · rcases (H.out.kept HG.out) with h0 | ⟨b1, off1, rfl, hb1, hc⟩
          · rw [h0] at hlt
            simp at hlt
          · obtain ⟨e0, e1, e2, e3, e4⟩ := hc j hlt
            clear hc
            obtain ⟨ev, hev⟩ : ∃ ev, ev = t[j] := ⟨_, rfl⟩
            rw [← hev] at e0 e1 e2 e3 e4
            obtain ⟨k, n, a, f, x⟩ := ev
            dsimp only at e0 e1 e2 e3 e4
            have hlt' : (j : Int) < (t.length : Int) := by omega
            have hj0 : (0 : Int) ≤ (j : Int) := by omega
            have hevs := fun W => rn_evS k n a f x W
            cases g2 : evOk ⟨k, n, a, f, x⟩
            · rw [g2] at hevs
              have HEV := Lib.hid hevs
              have hfin := HS.out.2.stop hlt (by rw [← hev]; exact g2)
              have hq := hfin.symm.trans HP.out.symm
              simp only [Prod.mk.injEq, Rn.mk.injEq] at hq
              obtain ⟨⟨rfl, rfl, rfl, rfl, rfl, rfl, rfl⟩, rfl⟩ := hq
              clear hevs hfin g2 hev
              go_wp2_with fail
              refine (HEV.out _).mono ?_
              rintro e w5 ⟨rfl, hw5⟩
              have hg : _ = _ := hw5
              have HA5 := Lib.hid (show Bx w5 W.heap.size 25 #[.int .i64 m, .int .i64 w, .int .i64 l, .int .i64 p, .int .i64 d, .int .i64 o, .int .i64 g] from hw5 ▸ HA.out.alloc _)
              have HZ5 := Lib.hid (show Bx w5 (W.heap.size + 1) 25 #[.int .i64 0, .int .i64 0, .int .i64 0, .int .i64 0, .int .i64 0, .int .i64 0, .int .i64 0] from hw5 ▸ HZ.out.alloc _)
              have HG5 := Lib.hid (show W.grownBy w5 none from hw5 ▸ gA HG.out _)
              clear hg hw5 c0 cf0 c1 cf1 c2 cf2 c3 cf3 c4 cf4 c5 cf5 c6 cf6
              have c0 := HA5.out.c 0 (x := .int .i64 m) rfl
              have c1 := HA5.out.c 1 (x := .int .i64 w) rfl
              have c2 := HA5.out.c 2 (x := .int .i64 l) rfl
              have c3 := HA5.out.c 3 (x := .int .i64 p) rfl
              have c4 := HA5.out.c 4 (x := .int .i64 d) rfl
              have c5 := HA5.out.c 5 (x := .int .i64 o) rfl
              have c6 := HA5.out.c 6 (x := .int .i64 g) rfl
              have cf0 := HA5.out.f 0
              have cf1 := HA5.out.f 1
              have cf2 := HA5.out.f 2
              have cf3 := HA5.out.f 3
              have cf4 := HA5.out.f 4
              have cf5 := HA5.out.f 5
              have cf6 := HA5.out.f 6
              have z0 := HZ5.out.c 0 (x := .int .i64 0) rfl
              have z1 := HZ5.out.c 1 (x := .int .i64 0) rfl
              have z2 := HZ5.out.c 2 (x := .int .i64 0) rfl
              have z3 := HZ5.out.c 3 (x := .int .i64 0) rfl
              have z4 := HZ5.out.c 4 (x := .int .i64 0) rfl
              have z5 := HZ5.out.c 5 (x := .int .i64 0) rfl
              have z6 := HZ5.out.c 6 (x := .int .i64 0) rfl
              have zf0 := HZ5.out.f 0
              have zf1 := HZ5.out.f 1
              have zf2 := HZ5.out.f 2
              have zf3 := HZ5.out.f 3
              have zf4 := HZ5.out.f 4
              have zf5 := HZ5.out.f 5
              have zf6 := HZ5.out.f 6
              go_wp2_with fail
              exact bodyPost_ret (v := .tuple #[.agg #[.int .i64 m, .int .i64 w, .int .i64 l, .int .i64 p, .int .i64 d, .int .i64 o, .int .i64 g], .int .i64 (j : Nat)]) (by simp [results, Try.results7, go_sem, z0, z1, z2, z3, z4, z5, z6]) rfl ⟨rfl, by repeat (first | with_reducible refine gS ?_ (by first | omega | (simp; omega)) _ _ | with_reducible refine gA ?_ _ | with_reducible refine gD ?_ _ | with_reducible refine gd ?_ | with_reducible exact HG5.out)⟩
            · have hst := fun W => rs_stepL m w l p d o g k n a f x W HS.out.1 g2
              have hstep := step_facts m w l p d o g k n a f x HS.out.1 g2
              have hnext := HS.out.2.next hlt (by rw [← hev]; exact g2)
              rw [← hev] at hnext
              have hok := hstep.ok
              clear hstep
              generalize rnStep ⟨m, w, l, p, d, o, g⟩ ⟨k, n, a, f, x⟩ = R at hst hnext hok
              obtain ⟨R0, R1, R2, R3, R4, R5, R6⟩ := R
              simp only [rnV] at hst
              rw [g2] at hevs
              have HST := Lib.hid hst
              have HEV := Lib.hid hevs
              have HN := Lib.hid (And.intro hok hnext)
              clear hst hevs hok hnext g2 hev
              go_wp2_with fail
              refine (HEV.out _).mono ?_
              rintro e w5 ⟨rfl, hw5⟩
              have hg : _ = _ := hw5
              have HA5 := Lib.hid (show Bx w5 W.heap.size 25 #[.int .i64 m, .int .i64 w, .int .i64 l, .int .i64 p, .int .i64 d, .int .i64 o, .int .i64 g] from hw5 ▸ HA.out.alloc _)
              have HZ5 := Lib.hid (show Bx w5 (W.heap.size + 1) 25 #[.int .i64 0, .int .i64 0, .int .i64 0, .int .i64 0, .int .i64 0, .int .i64 0, .int .i64 0] from hw5 ▸ HZ.out.alloc _)
              have HG5 := Lib.hid (show W.grownBy w5 none from hw5 ▸ gA HG.out _)
              have q0 := (hw5 ▸ World.grownBy_alloc _ _ none : World.grownBy _ w5 none).cell e0 (by simp)
              have q1 := (hw5 ▸ World.grownBy_alloc _ _ none : World.grownBy _ w5 none).cell e1 (by simp)
              have q2 := (hw5 ▸ World.grownBy_alloc _ _ none : World.grownBy _ w5 none).cell e2 (by simp)
              have q3 := (hw5 ▸ World.grownBy_alloc _ _ none : World.grownBy _ w5 none).cell e3 (by simp)
              have q4 := (hw5 ▸ World.grownBy_alloc _ _ none : World.grownBy _ w5 none).cell e4 (by simp)
              clear hg hw5 c0 cf0 c1 cf1 c2 cf2 c3 cf3 c4 cf4 c5 cf5 c6 cf6 e0 e1 e2 e3 e4
              have c0 := HA5.out.c 0 (x := .int .i64 m) rfl
              have c1 := HA5.out.c 1 (x := .int .i64 w) rfl
              have c2 := HA5.out.c 2 (x := .int .i64 l) rfl
              have c3 := HA5.out.c 3 (x := .int .i64 p) rfl
              have c4 := HA5.out.c 4 (x := .int .i64 d) rfl
              have c5 := HA5.out.c 5 (x := .int .i64 o) rfl
              have c6 := HA5.out.c 6 (x := .int .i64 g) rfl
              have cf0 := HA5.out.f 0
              have cf1 := HA5.out.f 1
              have cf2 := HA5.out.f 2
              have cf3 := HA5.out.f 3
              have cf4 := HA5.out.f 4
              have cf5 := HA5.out.f 5
              have cf6 := HA5.out.f 6
              go_wp2_with fail
              go_still_tail 5, (by kernel_rfl)
              go_wp2_with fail
              refine (HST.out _).mono ?_
              rintro e w6 ⟨rfl, hg⟩
              have HA6 := Lib.hid ((HA5.out.keep grownBy_drew).keep hg)
              have HZ6 := Lib.hid ((HZ5.out.keep grownBy_drew).keep hg)
              have HG6 := Lib.hid (grownBy_trans (gd HG5.out) hg)
              have la6 := HA6.out.lt
              clear hg c0 cf0 c1 cf1 c2 cf2 c3 cf3 c4 cf4 c5 cf5 c6 cf6
              have c0 := HA6.out.c 0 (x := .int .i64 m) rfl
              have c1 := HA6.out.c 1 (x := .int .i64 w) rfl
              have c2 := HA6.out.c 2 (x := .int .i64 l) rfl
              have c3 := HA6.out.c 3 (x := .int .i64 p) rfl
              have c4 := HA6.out.c 4 (x := .int .i64 d) rfl
              have c5 := HA6.out.c 5 (x := .int .i64 o) rfl
              have c6 := HA6.out.c 6 (x := .int .i64 g) rfl
              have cf0 := HA6.out.f 0
              have cf1 := HA6.out.f 1
              have cf2 := HA6.out.f 2
              have cf3 := HA6.out.f 3
              have cf4 := HA6.out.f 4
              have cf5 := HA6.out.f 5
              have cf6 := HA6.out.f 6
              have k0 : Bx _ W.heap.size 25 #[.int .i64 R0, .int .i64 w, .int .i64 l, .int .i64 p, .int .i64 d, .int .i64 o, .int .i64 g] := HA6.out.s 0 (.int .i64 R0)
              have u0 : Bx _ (W.heap.size + 1) 25 #[.int .i64 0, .int .i64 0, .int .i64 0, .int .i64 0, .int .i64 0, .int .i64 0, .int .i64 0] := HZ6.out.other (B' := W.heap.size) (by omega) 0 (.int .i64 R0)
              have v0 := gS HG6.out (Nat.le_refl _) 0 (.int .i64 R0)
              have k1 : Bx _ W.heap.size 25 #[.int .i64 R0, .int .i64 R1, .int .i64 l, .int .i64 p, .int .i64 d, .int .i64 o, .int .i64 g] := k0.s 1 (.int .i64 R1)
              have u1 : Bx _ (W.heap.size + 1) 25 #[.int .i64 0, .int .i64 0, .int .i64 0, .int .i64 0, .int .i64 0, .int .i64 0, .int .i64 0] := u0.other (B' := W.heap.size) (by omega) 1 (.int .i64 R1)
              have v1 := gS v0 (Nat.le_refl _) 1 (.int .i64 R1)
              have k2 : Bx _ W.heap.size 25 #[.int .i64 R0, .int .i64 R1, .int .i64 R2, .int .i64 p, .int .i64 d, .int .i64 o, .int .i64 g] := k1.s 2 (.int .i64 R2)
              have u2 : Bx _ (W.heap.size + 1) 25 #[.int .i64 0, .int .i64 0, .int .i64 0, .int .i64 0, .int .i64 0, .int .i64 0, .int .i64 0] := u1.other (B' := W.heap.size) (by omega) 2 (.int .i64 R2)
              have v2 := gS v1 (Nat.le_refl _) 2 (.int .i64 R2)
              have k3 : Bx _ W.heap.size 25 #[.int .i64 R0, .int .i64 R1, .int .i64 R2, .int .i64 R3, .int .i64 d, .int .i64 o, .int .i64 g] := k2.s 3 (.int .i64 R3)
              have u3 : Bx _ (W.heap.size + 1) 25 #[.int .i64 0, .int .i64 0, .int .i64 0, .int .i64 0, .int .i64 0, .int .i64 0, .int .i64 0] := u2.other (B' := W.heap.size) (by omega) 3 (.int .i64 R3)
              have v3 := gS v2 (Nat.le_refl _) 3 (.int .i64 R3)
              have k4 : Bx _ W.heap.size 25 #[.int .i64 R0, .int .i64 R1, .int .i64 R2, .int .i64 R3, .int .i64 R4, .int .i64 o, .int .i64 g] := k3.s 4 (.int .i64 R4)
              have u4 : Bx _ (W.heap.size + 1) 25 #[.int .i64 0, .int .i64 0, .int .i64 0, .int .i64 0, .int .i64 0, .int .i64 0, .int .i64 0] := u3.other (B' := W.heap.size) (by omega) 4 (.int .i64 R4)
              have v4 := gS v3 (Nat.le_refl _) 4 (.int .i64 R4)
              have k5 : Bx _ W.heap.size 25 #[.int .i64 R0, .int .i64 R1, .int .i64 R2, .int .i64 R3, .int .i64 R4, .int .i64 R5, .int .i64 g] := k4.s 5 (.int .i64 R5)
              have u5 : Bx _ (W.heap.size + 1) 25 #[.int .i64 0, .int .i64 0, .int .i64 0, .int .i64 0, .int .i64 0, .int .i64 0, .int .i64 0] := u4.other (B' := W.heap.size) (by omega) 5 (.int .i64 R5)
              have v5 := gS v4 (Nat.le_refl _) 5 (.int .i64 R5)
              have k6 : Bx _ W.heap.size 25 #[.int .i64 R0, .int .i64 R1, .int .i64 R2, .int .i64 R3, .int .i64 R4, .int .i64 R5, .int .i64 R6] := k5.s 6 (.int .i64 R6)
              have u6 : Bx _ (W.heap.size + 1) 25 #[.int .i64 0, .int .i64 0, .int .i64 0, .int .i64 0, .int .i64 0, .int .i64 0, .int .i64 0] := u5.other (B' := W.heap.size) (by omega) 6 (.int .i64 R6)
              have v6 := gS v5 (Nat.le_refl _) 6 (.int .i64 R6)
              have HK := Lib.hid (And.intro k6 (And.intro u6 v6))
              clear k0 u0 v0 k1 u1 v1 k2 u2 v2 k3 u3 v3 k4 u4 v4 k5 u5 v5 k6 u6 v6
              go_wp2_with fail
              go_roundw
              case rel => exact ⟨j + 1, R0, R1, R2, R3, R4, R5, R6, hlt, by go_num, HN.out.1, HN.out.2, HK.out.1, HK.out.2.1, HK.out.2.2⟩
              case measure => simp [intOf]; omega
        · obtain rfl : j = t.length := by omega
          have hfin := HS.out.2.whole
          have hq := hfin.symm.trans HP.out.symm
          simp only [Prod.mk.injEq, Rn.mk.injEq] at hq
          obtain ⟨⟨rfl, rfl, rfl, rfl, rfl, rfl, rfl⟩, rfl⟩ := hq
          clear hfin
          have z0 := HZ.out.c 0 (x := .int .i64 0) rfl
          have z1 := HZ.out.c 1 (x := .int .i64 0) rfl
          have z2 := HZ.out.c 2 (x := .int .i64 0) rfl
          have z3 := HZ.out.c 3 (x := .int .i64 0) rfl
          have z4 := HZ.out.c 4 (x := .int .i64 0) rfl
          have z5 := HZ.out.c 5 (x := .int .i64 0) rfl
          have z6 := HZ.out.c 6 (x := .int .i64 0) rfl
          have zf0 := HZ.out.f 0
          have zf1 := HZ.out.f 1
          have zf2 := HZ.out.f 2
          have zf3 := HZ.out.f 3
          have zf4 := HZ.out.f 4
          have zf5 := HZ.out.f 5
          have zf6 := HZ.out.f 6
          go_wp2_with fail
          exact bodyPost_ret (v := .tuple #[.agg #[.int .i64 m, .int .i64 w, .int .i64 l, .int .i64 p, .int .i64 d, .int .i64 o, .int .i64 g], .int .i64 (t.length : Nat)]) (by simp [results, Try.results7, go_sem, z0, z1, z2, z3, z4, z5, z6]) rfl ⟨rfl, by repeat (first | with_reducible refine gS ?_ (by first | omega | (simp; omega)) _ _ | with_reducible refine gA ?_ _ | with_reducible refine gD ?_ _ | with_reducible refine gd ?_ | with_reducible exact HG.out)⟩

end Go.Proofs.Ytklbnpnngfoecaa
