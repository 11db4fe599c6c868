/- For every drawn row of pieces the law FnHoles answers true; no condition. -/
import Derived.Test.YtobibbfamkjlaaaRows
import Derived.Test.YtobibbfamkjlaaaDraw
import Derived.Test.YtobibbfamkjlaaaDrawB
import Derived.Test.YtobibbfamkjlaaaPcHol
import Derived.WalkKit
import Derived.ProofKit
import Derived.OpenShut
import Derived.ShutString
import Derived.ChangeOld
import Derived.Below
import Derived.Lib.SmallJoins
namespace Go.Proofs.Ytobibbfamkjlaaa.fnHoles
open Go.ChangeShapes Go.WideShapes Go.ChangeAt Go.RowKit Go.Joins
open Go.ChangeMaps (open_string shut_string)
set_option linter.unusedVariables false

theorem own : ownKnob Try.prog.godebug = none := by kernel_rfl
theorem laidOut : laidOutB Try.prog = true := by kernel_rfl


def IsRow (k : IntKind) (w : World) (a : Option Addr) (len cap : Nat) (zs : List Int) : Prop :=
  (a = none ∧ len = 0 ∧ cap = 0 ∧ zs = []) ∨
  ∃ x, a = some x ∧ len ≤ cap ∧ cap ≤ maxLen ∧ zs.length = cap ∧ (∀ i, i < zs.length → w.cell? (x.add i) = some (.int k (zs.getD i 0))) ∧ ∀ n ∈ zs, (Lit.int k n).wf = true

def HoRelA (w : World) (l : List Pk) (T : Nat) (o a : Value) (wr : World) : Prop :=
  ∃ A : Nat, A ≤ T ∧ a = .int .i64 (A : Int) ∧ o = .int .i64 (cnt (fun i => (byteL l (i : Int)).isNone) A) ∧ w.grownBy wr none
def HoRelB (w : World) (hs : List Rg) (A : Nat) (b i : Value) (wr : World) : Prop :=
  ∃ j : Nat, j ≤ hs.length ∧ i = .int .i64 j ∧ b = .bool (inH (hs.take j) (A : Int)) ∧ w.grownBy wr none
def HoRelC (w : World) (hs : List Rg) (n i : Value) (wr : World) : Prop :=
  ∃ j : Nat, j ≤ hs.length ∧ i = .int .i64 j ∧ n = .int .i64 (sumRto hs j) ∧ w.grownBy wr none

set_option maxRecDepth 100000 in
set_option maxHeartbeats 8000000 in
theorem walk (a0 : Option Addr) (len0 cap0 : Nat) (z0 : List Int) (w : World) (w0 : IsRow .u8 w a0 len0 cap0 z0) :
    Calls Try.prog 3 #[.slice a0 len0 cap0] w fun e w' => e = .returned (.bool true) ∧ Below w.heap.size w w' := by
  have hc := code_of w0
  have hbig0 : len0 ≤ maxLen := hc.1
  clear w0
  have HC := Lib.hid hc
  clear hc
  by_cases hbig : 1048576 < len0
  · go_enter Try.func3, Try.ntmps3
    go_wp2_with (go_at_call 6; refine (big_any _ _ _ _).mono ?_; rintro e w' ⟨rfl, rfl⟩)
    go_ret
    exact ⟨rfl, Below.refl _ _⟩
  · go_enter Try.func3, Try.ntmps3
    go_wp2_with (go_at_call 6; refine (big_any _ _ _ _).mono ?_; rintro e w' ⟨rfl, rfl⟩)
    refine (draw_holes _ _ _ _ HC.out).mono ?_
    rintro e w1 ⟨l, v, t, hl, rfl, hg, ho⟩
    have hl4 := hl.1
    obtain ⟨a1, c1, rfl⟩ := own_slice ho
    have H1 := Lib.hid (And.intro hg (pk_own ho))
    clear hg ho hl
    go_wp2_with fail
    refine (holes_impl _ _ _ _ _ H1.out.2).mono ?_
    rintro e w2 ⟨v2, rfl, hg, ho⟩
    obtain ⟨a2, c2, rfl⟩ := own_slice ho
    have H2 := Lib.hid (And.intro (grownBy_trans H1.out.1 hg) (And.intro (H1.out.2.kept hg) (rg_own ho)))
    clear hg ho
    obtain ⟨hs, hhs⟩ : ∃ hs, holesL l t = hs := ⟨_, rfl⟩
    have HH := Lib.hid hhs
    rw [hhs] at H2 ⊢
    clear hhs
    have hlen : hs.length ≤ 61 := by rw [← HH.out]; exact holesL_len l t
    go_wp2_with fail
    refine (draw_prefix _ _ _ _ (HC.out.kept H2.out.1)).mono ?_
    rintro e w3 ⟨p, v3, hp4, rfl, hg, ho⟩
    obtain ⟨a3, c3, rfl⟩ := own_slice ho
    have H3 := Lib.hid (And.intro (grownBy_trans H2.out.1 hg) (And.intro (H2.out.2.1.kept hg) (And.intro (H2.out.2.2.kept hg) (pk_own ho))))
    clear hg ho
    go_wp2_with fail
    refine (draw_known _ _ _ _ (HC.out.kept H3.out.1)).mono ?_
    rintro e w4 ⟨k, v4, hk4, rfl, hg, ho⟩
    obtain ⟨a4, c4, rfl⟩ := own_slice ho
    have H4 := Lib.hid (And.intro (grownBy_trans H3.out.1 hg) (And.intro (H3.out.2.1.kept hg) (And.intro (H3.out.2.2.1.kept hg) (And.intro (H3.out.2.2.2.kept hg) (pk_own ho)))))
    clear hg ho
    obtain ⟨s, hs2⟩ : ∃ s, prefL p = s := ⟨_, rfl⟩
    have HQ := Lib.hid hs2
    clear hs2
    obtain ⟨kn, hk2⟩ : ∃ kn, knownL k = kn := ⟨_, rfl⟩
    have HK := Lib.hid hk2
    clear hk2
    go_wp2_with fail
    refine (holes_spec _ _ _ _ _ H4.out.2.1 (by omega)).mono ?_
    rintro e w7 ⟨v7, rfl, hg, ho⟩
    obtain ⟨a7, c7, rfl⟩ := own_slice ho
    have B1 := Lib.hid (And.intro (grownBy_trans H4.out.1 hg) (And.intro (H4.out.2.1.kept hg) (And.intro (H4.out.2.2.1.kept hg) (And.intro (H4.out.2.2.2.1.kept hg) (And.intro (H4.out.2.2.2.2.kept hg) (rg_own ho))))))
    clear hg ho
    rw [HH.out] at B1 ⊢
    go_wp2_with fail
    refine (same_ranges _ _ _ _ _ _ B1.out.2.2.1 B1.out.2.2.2.2.2 (by omega)).mono ?_
    rintro e w7b ⟨rfl, hg⟩
    have B2 := Lib.hid (And.intro (grownBy_trans B1.out.1 hg) (And.intro (B1.out.2.1.kept hg) (And.intro (B1.out.2.2.1.kept hg) (And.intro (B1.out.2.2.2.1.kept hg) (B1.out.2.2.2.2.1.kept hg)))))
    clear hg B1
    go_wp2_with fail
    refine (pref_impl _ _ _ _ B2.out.2.2.2.1).mono ?_
    rintro e w7c ⟨rfl, hg⟩
    rw [HQ.out]
    have B3 := Lib.hid (And.intro (grownBy_trans B2.out.1 hg) (And.intro (B2.out.2.1.kept hg) (And.intro (B2.out.2.2.1.kept hg) (And.intro (B2.out.2.2.2.1.kept hg) (B2.out.2.2.2.2.kept hg)))))
    clear hg B2
    go_wp2_with fail
    refine (pref_spec _ _ _ _ B3.out.2.2.2.1 (by omega)).mono ?_
    rintro e w7d ⟨rfl, hg⟩
    rw [HQ.out]
    have B4 := Lib.hid (And.intro (grownBy_trans B3.out.1 hg) (And.intro (B3.out.2.1.kept hg) (And.intro (B3.out.2.2.1.kept hg) (B3.out.2.2.2.2.kept hg))))
    have PP := Lib.hid (B3.out.2.2.2.1.kept hg)
    clear hg B3
    go_wp2_with fail
    refine (known_impl _ _ _ _ B4.out.2.2.2).mono ?_
    rintro e w7e ⟨rfl, hg⟩
    rw [HK.out]
    have PP := Lib.hid (PP.out.kept hg)
    have B5 := Lib.hid (And.intro (grownBy_trans B4.out.1 hg) (And.intro (B4.out.2.1.kept hg) (And.intro (B4.out.2.2.1.kept hg) (B4.out.2.2.2.kept hg))))
    clear hg B4
    go_wp2_with fail
    refine (known_spec _ _ _ _ B5.out.2.2.2 (by omega)).mono ?_
    rintro e w7f ⟨rfl, hg⟩
    rw [HK.out]
    have B6 := Lib.hid (And.intro (grownBy_trans B5.out.1 hg) (And.intro (B5.out.2.1.kept hg) (And.intro (B5.out.2.2.1.kept hg) (And.intro (PP.out.kept hg) (B5.out.2.2.2.kept hg)))))
    clear hg B5
    go_wp2_with fail
    refine (ok_spec _ _ _ _ B6.out.2.1 (by omega)).mono ?_
    rintro e w9 ⟨rfl, hg⟩
    have H9 := Lib.hid (And.intro (grownBy_trans B6.out.1 hg) (And.intro (B6.out.2.1.kept hg) (B6.out.2.2.1.kept hg)))
    have H9p := Lib.hid (And.intro (B6.out.2.2.2.1.kept hg) (B6.out.2.2.2.2.kept hg))
    clear hg B6
    cases hok : pcsOk l
    · go_wp2_with fail
      have H9a := Lib.hid (And.intro H9.out.1 (And.intro H9.out.2.1 (And.intro H9.out.2.2 H9p.out)))
      refine (holes_spec _ _ _ _ _ H9a.out.2.1 (by omega)).mono ?_
      rintro e w10 ⟨v10, rfl, hg, ho⟩
      obtain ⟨a10, c10, rfl⟩ := own_slice ho
      have B1 := Lib.hid (And.intro (grownBy_trans H9a.out.1 hg) (And.intro (H9a.out.2.1.kept hg) (And.intro (H9a.out.2.2.1.kept hg) (And.intro (H9a.out.2.2.2.1.kept hg) (And.intro (H9a.out.2.2.2.2.kept hg) (rg_own ho))))))
      clear hg ho
      rw [HH.out] at B1 ⊢
      go_wp2_with fail
      refine (same_ranges _ _ _ _ _ _ B1.out.2.2.1 B1.out.2.2.2.2.2 (by omega)).mono ?_
      rintro e w10b ⟨rfl, hg⟩
      have B2 := Lib.hid (And.intro (grownBy_trans B1.out.1 hg) (And.intro (B1.out.2.1.kept hg) (And.intro (B1.out.2.2.1.kept hg) (And.intro (B1.out.2.2.2.1.kept hg) (B1.out.2.2.2.2.1.kept hg)))))
      clear hg B1
      go_wp2_with fail
      refine (pref_impl _ _ _ _ B2.out.2.2.2.1).mono ?_
      rintro e w10c ⟨rfl, hg⟩
      rw [HQ.out]
      have B3 := Lib.hid (And.intro (grownBy_trans B2.out.1 hg) (And.intro (B2.out.2.1.kept hg) (And.intro (B2.out.2.2.1.kept hg) (And.intro (B2.out.2.2.2.1.kept hg) (B2.out.2.2.2.2.kept hg)))))
      clear hg B2
      go_wp2_with fail
      refine (pref_spec _ _ _ _ B3.out.2.2.2.1 (by omega)).mono ?_
      rintro e w10d ⟨rfl, hg⟩
      rw [HQ.out]
      have B4 := Lib.hid (And.intro (grownBy_trans B3.out.1 hg) (And.intro (B3.out.2.1.kept hg) (And.intro (B3.out.2.2.1.kept hg) (B3.out.2.2.2.2.kept hg))))
      clear hg B3
      go_wp2_with fail
      refine (known_impl _ _ _ _ B4.out.2.2.2).mono ?_
      rintro e w10e ⟨rfl, hg⟩
      rw [HK.out]
      have B5 := Lib.hid (And.intro (grownBy_trans B4.out.1 hg) (And.intro (B4.out.2.1.kept hg) (And.intro (B4.out.2.2.1.kept hg) (B4.out.2.2.2.kept hg))))
      clear hg B4
      go_wp2_with fail
      refine (known_spec _ _ _ _ B5.out.2.2.2 (by omega)).mono ?_
      rintro e w10f ⟨rfl, hg⟩
      rw [HK.out]
      have B6 := Lib.hid (And.intro (grownBy_trans B5.out.1 hg) (And.intro (B5.out.2.1.kept hg) (B5.out.2.2.1.kept hg)))
      clear hg B5
      go_wp2_with fail
      go_ret
      exact ⟨rfl, below_new B6.out.1⟩
    · have HP := Lib.hid (pcs_of hok)
      by_cases ht0 : t < 0
      · go_wp2_with fail
        have H9a := Lib.hid (And.intro H9.out.1 (And.intro H9.out.2.1 (And.intro H9.out.2.2 H9p.out)))
        refine (holes_spec _ _ _ _ _ H9a.out.2.1 (by omega)).mono ?_
        rintro e w10 ⟨v10, rfl, hg, ho⟩
        obtain ⟨a10, c10, rfl⟩ := own_slice ho
        have B1 := Lib.hid (And.intro (grownBy_trans H9a.out.1 hg) (And.intro (H9a.out.2.1.kept hg) (And.intro (H9a.out.2.2.1.kept hg) (And.intro (H9a.out.2.2.2.1.kept hg) (And.intro (H9a.out.2.2.2.2.kept hg) (rg_own ho))))))
        clear hg ho
        rw [HH.out] at B1 ⊢
        go_wp2_with fail
        refine (same_ranges _ _ _ _ _ _ B1.out.2.2.1 B1.out.2.2.2.2.2 (by omega)).mono ?_
        rintro e w10b ⟨rfl, hg⟩
        have B2 := Lib.hid (And.intro (grownBy_trans B1.out.1 hg) (And.intro (B1.out.2.1.kept hg) (And.intro (B1.out.2.2.1.kept hg) (And.intro (B1.out.2.2.2.1.kept hg) (B1.out.2.2.2.2.1.kept hg)))))
        clear hg B1
        go_wp2_with fail
        refine (pref_impl _ _ _ _ B2.out.2.2.2.1).mono ?_
        rintro e w10c ⟨rfl, hg⟩
        rw [HQ.out]
        have B3 := Lib.hid (And.intro (grownBy_trans B2.out.1 hg) (And.intro (B2.out.2.1.kept hg) (And.intro (B2.out.2.2.1.kept hg) (And.intro (B2.out.2.2.2.1.kept hg) (B2.out.2.2.2.2.kept hg)))))
        clear hg B2
        go_wp2_with fail
        refine (pref_spec _ _ _ _ B3.out.2.2.2.1 (by omega)).mono ?_
        rintro e w10d ⟨rfl, hg⟩
        rw [HQ.out]
        have B4 := Lib.hid (And.intro (grownBy_trans B3.out.1 hg) (And.intro (B3.out.2.1.kept hg) (And.intro (B3.out.2.2.1.kept hg) (B3.out.2.2.2.2.kept hg))))
        clear hg B3
        go_wp2_with fail
        refine (known_impl _ _ _ _ B4.out.2.2.2).mono ?_
        rintro e w10e ⟨rfl, hg⟩
        rw [HK.out]
        have B5 := Lib.hid (And.intro (grownBy_trans B4.out.1 hg) (And.intro (B4.out.2.1.kept hg) (And.intro (B4.out.2.2.1.kept hg) (B4.out.2.2.2.kept hg))))
        clear hg B4
        go_wp2_with fail
        refine (known_spec _ _ _ _ B5.out.2.2.2 (by omega)).mono ?_
        rintro e w10f ⟨rfl, hg⟩
        rw [HK.out]
        have B6 := Lib.hid (And.intro (grownBy_trans B5.out.1 hg) (And.intro (B5.out.2.1.kept hg) (B5.out.2.2.1.kept hg)))
        clear hg B5
        go_wp2_with fail
        go_ret
        exact ⟨rfl, below_new B6.out.1⟩
      · by_cases ht1 : 100 < t
        · go_wp2_with fail
          have H9a := Lib.hid (And.intro H9.out.1 (And.intro H9.out.2.1 (And.intro H9.out.2.2 H9p.out)))
          refine (holes_spec _ _ _ _ _ H9a.out.2.1 (by omega)).mono ?_
          rintro e w10 ⟨v10, rfl, hg, ho⟩
          obtain ⟨a10, c10, rfl⟩ := own_slice ho
          have B1 := Lib.hid (And.intro (grownBy_trans H9a.out.1 hg) (And.intro (H9a.out.2.1.kept hg) (And.intro (H9a.out.2.2.1.kept hg) (And.intro (H9a.out.2.2.2.1.kept hg) (And.intro (H9a.out.2.2.2.2.kept hg) (rg_own ho))))))
          clear hg ho
          rw [HH.out] at B1 ⊢
          go_wp2_with fail
          refine (same_ranges _ _ _ _ _ _ B1.out.2.2.1 B1.out.2.2.2.2.2 (by omega)).mono ?_
          rintro e w10b ⟨rfl, hg⟩
          have B2 := Lib.hid (And.intro (grownBy_trans B1.out.1 hg) (And.intro (B1.out.2.1.kept hg) (And.intro (B1.out.2.2.1.kept hg) (And.intro (B1.out.2.2.2.1.kept hg) (B1.out.2.2.2.2.1.kept hg)))))
          clear hg B1
          go_wp2_with fail
          refine (pref_impl _ _ _ _ B2.out.2.2.2.1).mono ?_
          rintro e w10c ⟨rfl, hg⟩
          rw [HQ.out]
          have B3 := Lib.hid (And.intro (grownBy_trans B2.out.1 hg) (And.intro (B2.out.2.1.kept hg) (And.intro (B2.out.2.2.1.kept hg) (And.intro (B2.out.2.2.2.1.kept hg) (B2.out.2.2.2.2.kept hg)))))
          clear hg B2
          go_wp2_with fail
          refine (pref_spec _ _ _ _ B3.out.2.2.2.1 (by omega)).mono ?_
          rintro e w10d ⟨rfl, hg⟩
          rw [HQ.out]
          have B4 := Lib.hid (And.intro (grownBy_trans B3.out.1 hg) (And.intro (B3.out.2.1.kept hg) (And.intro (B3.out.2.2.1.kept hg) (B3.out.2.2.2.2.kept hg))))
          clear hg B3
          go_wp2_with fail
          refine (known_impl _ _ _ _ B4.out.2.2.2).mono ?_
          rintro e w10e ⟨rfl, hg⟩
          rw [HK.out]
          have B5 := Lib.hid (And.intro (grownBy_trans B4.out.1 hg) (And.intro (B4.out.2.1.kept hg) (And.intro (B4.out.2.2.1.kept hg) (B4.out.2.2.2.kept hg))))
          clear hg B4
          go_wp2_with fail
          refine (known_spec _ _ _ _ B5.out.2.2.2 (by omega)).mono ?_
          rintro e w10f ⟨rfl, hg⟩
          rw [HK.out]
          have B6 := Lib.hid (And.intro (grownBy_trans B5.out.1 hg) (And.intro (B5.out.2.1.kept hg) (B5.out.2.2.1.kept hg)))
          clear hg B5
          go_wp2_with fail
          go_ret
          exact ⟨rfl, below_new B6.out.1⟩
        · obtain ⟨T, rfl⟩ := Int.eq_ofNat_of_zero_le (by omega : 0 ≤ t)
          have hT : T ≤ 100 := by omega
          have HF := Lib.hid (show hs = holesF l 0 (T : Int) by rw [← HH.out, holesL, if_pos ⟨hok, by omega, by omega⟩])
          have HP2 := Lib.hid (show ∀ x ∈ l, pc2 x from fun x hx => by obtain ⟨x0, x1, x2, x3⟩ := HP.out.2.1 x hx; exact ⟨x0, by omega, by omega⟩)
          have HIN := Lib.hid (show ∀ A : Nat, A < T → inH hs (A : Int) = (byteL l (A : Int)).isNone from fun A hA => by rw [HF.out]; exact inH_is T l 0 A (fun q hq => (HP.out.2.1 q hq).1) HP.out.good (by omega) (by omega))
          have HSM := Lib.hid (show cnt (fun i => (byteL l (i : Int)).isNone) T = sumRto hs hs.length by rw [sumRto, List.take_length, HF.out]; exact open_sum HP.out T)
          have HBD := Lib.hid (show ∀ x ∈ hs, 0 ≤ x.1 ∧ x.1 < x.2 ∧ x.2 ≤ (T : Int) by rw [HF.out]; exact holesF_bd T l 0 (Int.le_refl _) (fun q hq => (HP.out.2.1 q hq).1))
          have hht0 : decide ((T : Int) < 0) = false := decide_eq_false (by omega)
          have hht1 : decide ((100 : Int) < (T : Int)) = false := decide_eq_false (by omega)
          clear ht0 ht1 HF
          go_wp2_with fail
          go_loopw [8, 9] (fun o a wr => HoRelA w9 l T o a wr) (fun _ a _ => T - (intOf a).toNat)
          case atStart => exact ⟨0, Nat.zero_le _, rfl, rfl, World.grownBy.refl _ _⟩
          case round =>
            obtain ⟨A, hA, rfl, rfl, hg⟩ := hrel
            have HS := Lib.hid hg
            clear hg
            have hcb := cnt_bd (fun i => (byteL l (i : Int)).isNone) A
            by_cases hAT : A < T
            · have hAT' : (A : Int) < (T : Int) := by omega
              go_wp2_with fail
              go_loopw [10, 11] (fun b i wr2 => HoRelB wr hs A b i wr2) (fun _ i _ => hs.length - (intOf i).toNat)
              case atStart => exact ⟨0, Nat.zero_le _, rfl, rfl, World.grownBy.refl _ _⟩
              case round =>
                obtain ⟨j, hj, rfl, rfl, hg⟩ := hrel
                have HS2 := Lib.hid hg
                clear hg
                by_cases hlt : j < hs.length
                · rcases (H9.out.2.2.kept (grownBy_trans HS.out HS2.out)) with h1 | ⟨b2, off2, rfl, hb2, hd⟩
                  · rw [h1] at hlt
                    simp at hlt
                  · obtain ⟨d0, d1⟩ := hd j hlt
                    clear hd
                    have hj1 : (j : Int) < (hs.length : Int) := by omega
                    have hj0 : (0 : Int) ≤ (j : Int) := by omega
                    have HN := Lib.hid (show inH (hs.take (j + 1)) (A : Int) = (inH (hs.take j) (A : Int) || covers hs[j] (A : Int)) by rw [List.take_succ_eq_append_getElem hlt, inH_snoc])
                    generalize hs[j] = x at *
                    obtain ⟨u, v⟩ := x
                    dsimp only at d0 d1
                    generalize hin : inH (hs.take j) (A : Int) = b at *
                    cases b
                    · by_cases hu : u ≤ (A : Int)
                      · by_cases hv : (A : Int) < v
                        · have HQ2 := Lib.hid (show inH (hs.take (j + 1)) (A : Int) = true by rw [HN.out]; simp [covers, hu, hv])
                          go_wp2_with fail
                          go_roundw
                          case rel => exact ⟨j + 1, hlt, by go_num, by rw [HQ2.out], HS2.out⟩
                          case measure => first | (simp [intOf]; done) | (simp [intOf]; omega)
                        · have hv2 : decide ((A : Int) < v) = false := decide_eq_false hv
                          have HQ2 := Lib.hid (show inH (hs.take (j + 1)) (A : Int) = false by rw [HN.out]; simp [covers]; omega)
                          go_wp2_with fail
                          go_roundw
                          case rel => exact ⟨j + 1, hlt, by go_num, by rw [HQ2.out], HS2.out⟩
                          case measure => first | (simp [intOf]; done) | (simp [intOf]; omega)
                      · have hu2 : decide (u ≤ (A : Int)) = false := decide_eq_false hu
                        have HQ2 := Lib.hid (show inH (hs.take (j + 1)) (A : Int) = false by rw [HN.out]; simp [covers]; omega)
                        go_wp2_with fail
                        go_roundw
                        case rel => exact ⟨j + 1, hlt, by go_num, by rw [HQ2.out], HS2.out⟩
                        case measure => first | (simp [intOf]; done) | (simp [intOf]; omega)
                    · have HQ2 := Lib.hid (show inH (hs.take (j + 1)) (A : Int) = true by rw [HN.out]; rfl)
                      go_wp2_with fail
                      go_roundw
                      case rel => exact ⟨j + 1, hlt, by go_num, by rw [HQ2.out], HS2.out⟩
                      case measure => first | (simp [intOf]; done) | (simp [intOf]; omega)
                · obtain rfl : j = hs.length := by omega
                  have hin := HIN.out A hAT
                  rw [List.take_length, hin]
                  clear hin
                  have HW := Lib.hid (grownBy_trans HS.out HS2.out)
                  have HN2 := Lib.hid (show cnt (fun i => (byteL l (i : Int)).isNone) (A + 1) = cnt (fun i => (byteL l (i : Int)).isNone) A + if (byteL l (A : Int)).isNone = true then 1 else 0 from rfl)
                  generalize cnt (fun i => (byteL l (i : Int)).isNone) A = cA at *
                  have hwc : IntKind.i64.wrap (cA + 1) = cA + 1 := IntWalk.i64_in _ (by omega)
                  have hwA : IntKind.i64.wrap ((A : Int) + 1) = (A : Int) + 1 := IntWalk.i64_in _ (by omega)
                  go_wp2_with fail
                  refine (byte_law _ _ _ _ _ (H9.out.2.1.kept HW.out) (by omega) HP2.out (by omega) (by omega)).mono ?_
                  rintro e w8 ⟨rfl, hg⟩
                  have HW2 := Lib.hid (grownBy_trans HW.out hg)
                  clear hg
                  cases hL : byteL l (A : Int) with
                  | none =>
                    rw [show byteV none = -1 from rfl]
                    rw [hL] at HN2
                    have HN3 := Lib.hid (show cnt (fun i => (byteL l (i : Int)).isNone) (A + 1) = cA + 1 from HN2.out)
                    simp only [Option.isNone_none]
                    go_wp2_with fail
                    go_roundw
                    case rel => exact ⟨A + 1, hAT, by first | rfl | go_num, by rw [HN3.out], HW2.out⟩
                    case measure => first | (simp [intOf]; done) | (simp [intOf]; omega)
                  | some y =>
                    have hy := y.toNat_lt
                    have hy0 : ¬ (y.toNat : Int) < 0 := by omega
                    have hy1 : decide ((y.toNat : Int) < 0) = false := decide_eq_false hy0
                    rw [show byteV (some y) = (y.toNat : Int) from rfl]
                    rw [hL] at HN2
                    have HN3 := Lib.hid (show cnt (fun i => (byteL l (i : Int)).isNone) (A + 1) = cA by rw [HN2.out]; simp)
                    simp only [Option.isNone_some]
                    go_wp2_with fail
                    go_roundw
                    case rel => exact ⟨A + 1, hAT, by first | rfl | go_num, by rw [HN3.out], HW2.out⟩
                    case measure => first | (simp [intOf]; done) | (simp [intOf]; omega)
            · obtain rfl : A = T := by omega
              rw [HSM.out]
              rw [HSM.out] at hcb
              obtain ⟨S, hS⟩ : ∃ S, sumRto hs hs.length = S := ⟨_, rfl⟩
              have HSS := Lib.hid hS
              rw [hS]
              clear hS
              go_wp2_with fail
              go_loopw [12, 13] (fun n i wr2 => HoRelC wr hs n i wr2) (fun _ i _ => hs.length - (intOf i).toNat)
              case atStart => exact ⟨0, Nat.zero_le _, rfl, by simp [sumRto, sumR], World.grownBy.refl _ _⟩
              case round =>
                obtain ⟨j, hj, rfl, rfl, hg⟩ := hrel
                have HS2 := Lib.hid hg
                clear hg
                by_cases hlt : j < hs.length
                · rcases (H9.out.2.2.kept (grownBy_trans HS.out HS2.out)) with h1 | ⟨b2, off2, rfl, hb2, hd⟩
                  · rw [h1] at hlt
                    simp at hlt
                  · obtain ⟨d0, d1⟩ := hd j hlt
                    clear hd
                    have hj1 : (j : Int) < (hs.length : Int) := by omega
                    obtain ⟨x0, x1, x2⟩ := HBD.out _ (List.getElem_mem hlt)
                    have hsb := sumRto_bd hs (A : Int) HBD.out j hj
                    have HN := Lib.hid (sumRto_next hs j hlt)
                    have hmul : (A : Int) * (j : Int) ≤ 100 * 61 := Int.le_trans (Int.mul_le_mul_of_nonneg_left (show (j : Int) ≤ 61 by omega) (by omega)) (Int.mul_le_mul_of_nonneg_right (show (A : Int) ≤ 100 by omega) (by omega))
                    generalize hs[j] = x at *
                    obtain ⟨u, v⟩ := x
                    dsimp only at d0 d1 x0 x1 x2 HN
                    generalize hsj : sumRto hs j = sj at *
                    have hj0 : (0 : Int) ≤ (j : Int) := by omega
                    have hw1 : IntKind.i64.wrap (sj + v) = sj + v := IntWalk.i64_in _ (by omega)
                    have hw2 : IntKind.i64.wrap (sj + v - u) = sj + v - u := IntWalk.i64_in _ (by omega)
                    have HQ2 := Lib.hid (show sj + v - u = sumRto hs (j + 1) by rw [HN.out]; omega)
                    clear hsj hsb hmul
                    go_wp2_with fail
                    go_quiet (fail)
                    go_wp2_with fail
                    go_roundw
                    case rel => exact ⟨j + 1, hlt, by go_num, by rw [← HQ2.out], grownBy_trans HS2.out (grownBy_drewN _)⟩
                    case measure => first | (simp [intOf]; done) | (simp [intOf]; omega)
                · obtain rfl : j = hs.length := by omega
                  rw [HSS.out]
                  have htt : (S == S) = true := by simp
                  go_wp2_with fail
                  go_ret
                  exact ⟨rfl, below_new (grownBy_trans (grownBy_trans H9.out.1 HS.out) HS2.out)⟩

set_option maxRecDepth 100000 in
theorem lifted (os : Os) (started : os.Started) (H : Type) (enc : TypeId × Value → H) :
    ReturnsInHanded {} Try.checked os 3 .any (Rows.fnHolesSpec.pre6 enc Try.prog Try.f3 Rows.fnHolesRow.domain false) (Rows.fnHolesSpec.post enc Try.prog Try.f3 false true false false) := by
  refine returnsInHanded_of_change (C := Try.checked) own started (by kernel_rfl) Try.func3
    (ChangeSpec.witness6 (enc := enc) (C := Try.checked) false ⟨#[], #[.slice none 0 0], []⟩ 8 (by kernel_rfl) (by kernel_rfl) (by kernel_rfl) (by kernel_rfl)) ?_
  intro W base args ds gs before hval0 hW hcnd _
  have hval : ∀ (j : Nat) t v, Try.f3.params[j]? = some t → args[j]? = some v → Value.okWide Try.prog W .any base t v := hval0
  have hW' := hW
  obtain ⟨p, q, hA0, hV, rfl, hfz, hnd⟩ := hW
  have hA : DataW.TrodAll enc Try.prog W 0 (fun _ => true) true Try.f3.params.toList args.toList ds p := hA0
  rw [Try.params3] at hA hval
  obtain ⟨v0, vs0, d0, ds0, p0, q0, hargs, rfl, rfl, h0, r0⟩ := trodAll_cons hA
  obtain ⟨rfl, rfl, rfl⟩ := trodAll_nil r0
  obtain rfl : args = #[v0] := by cases args; simp_all
  obtain ⟨rfl, rfl⟩ := trodVars_none hV
  have k0 := h0
  have lt0 : ∀ x ∈ p0, x.block < W.heap.size := by obtain ⟨m, hm⟩ := k0; exact DataW.trod_lt m _ _ _ hm
  obtain ⟨a0, len0, cap0, rfl⟩ := okWide_slice Try.underlying22 (hval 0 22 v0 rfl rfl)
  obtain ⟨z0, w0⟩ : ∃ zs, IsRow .u8 W a0 len0 cap0 zs := by
    obtain ⟨fuel, hf⟩ := h0
    rcases open_ints Try.underlying22 Try.underlying5 (by kernel_rfl) hf with ⟨hcs, _⟩ | ⟨x, l, c, zs, hcs, _, hl, hm, hz, _, hcell, hwz⟩
    · simp [Value.cells] at hcs
      obtain ⟨rfl, rfl, rfl⟩ := hcs
      exact ⟨[], .inl ⟨rfl, rfl, rfl, rfl⟩⟩
    · simp [Value.cells] at hcs
      obtain ⟨rfl, rfl, rfl⟩ := hcs
      exact ⟨zs, .inr ⟨_, rfl, hl, hm, by simpa using hz, hcell, hwz⟩⟩
  clear hA0 hval0
  refine (walk a0 len0 cap0 z0 W w0).mono fun e W' ⟨he, bel⟩ => ?_
  subst he
  exact ⟨_, rfl, _, _, _, [], _, [], hW', trodAll_mk1 (shut_bool Try.underlying4 _), (trodAll_cons_mk (Below.trod laidOut (by kernel_rfl) (of_decide_eq_true (by kernel_rfl)) k0 bel lt0) trodAll_mk0), rfl, bel.frame _, fun h => by cases h⟩

theorem over : Rows.fnHolesRow.holds Try.pinned (OpenSpec.ofChange Rows.fnHolesSpec) :=
  OpenClaim.holds_of_wide 3 Try.f3 rfl rfl rfl rfl rfl rfl rfl ⟨rfl, rfl, rfl, rfl, rfl⟩ rfl rfl rfl rfl rfl (by kernel_rfl) Try.func3 (by kernel_rfl)
    (of_decide_eq_true (by kernel_rfl)) (by unfold Func.isWrapper; first | (rw [if_pos (by decide +kernel)]; kernel_rfl) | (rw [if_neg (by decide +kernel)]; exact ⟨rfl, rfl⟩))
    (fun os started H enc _ => lifted os started H enc)

theorem proved : Rows.FnHolesSaid := over
end Go.Proofs.Ytobibbfamkjlaaa.fnHoles
