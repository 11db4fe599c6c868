/- PcBy -/
import Derived.Test.YtedhemllgpbheaaQ17
namespace Go.Proofs.Ytedhemllgpbheaa.P7
open Go.RowKit

def byteV : Option UInt8 → Int
  | some b => (b.toNat : Int)
  | none => -1

def pc2 (x : Pk) : Prop := 0 ≤ x.1 ∧ x.1 ≤ 1000000 ∧ x.2.length ≤ 1000000

def ByRel (w : World) (l : List Pk) (q : Int) (i : Value) (wr : World) : Prop :=
  ∃ j : Nat, j ≤ l.length ∧ i = .int .i64 j ∧ w.grownBy wr none ∧ byteL (l.drop j) q = byteL l q

set_option maxRecDepth 100000 in
set_option maxHeartbeats 4000000 in
theorem byte_spec (a : Option Addr) (c : Nat) (l : List Pk) (q : Int) (w : World) (h : PkAt w a l) (hl : l.length ≤ 1000000) (hp : ∀ x ∈ l, pc2 x) (hq0 : 0 ≤ q) (hq1 : q ≤ 10000000) : Calls Try.prog 51 #[.slice a l.length c, .int .i64 q] w fun e w' => e = .returned (.int .i64 (byteV (byteL l q))) ∧ w.grownBy w' none := by
  have H := Lib.hid (And.intro h hp)
  clear h hp
  go_enter Try.func51, Try.ntmps51
  go_wp2_with fail
  go_loopw [5] (fun i wr => ByRel w l q i wr) (fun i _ => l.length - (intOf i).toNat)
  case atStart => exact ⟨0, Nat.zero_le _, rfl, World.grownBy.refl _ _, rfl⟩
  case round =>
    obtain ⟨j, hj, rfl, hg, hby⟩ := hrel
    have HS := Lib.hid (And.intro hg hby)
    clear hg hby
    by_cases hlt : j < l.length
    · rcases (H.out.1.kept HS.out.1) with h0 | ⟨b, off, rfl, hb, hc⟩
      · rw [h0] at hlt
        simp at hlt
      · obtain ⟨c0, c1⟩ := hc j hlt
        clear hc
        have hlt' : (j : Int) < (l.length : Int) := by omega
        have hpx := H.out.2 _ (List.getElem_mem hlt)
        have HB := HS.out.2
        rw [List.drop_eq_getElem_cons hlt, byteL] at HB
        have HB := Lib.hid HB
        generalize l[j] = x at *
        obtain ⟨p, m⟩ := x
        obtain ⟨p0, p1, p2⟩ := hpx
        dsimp only at c0 c1 p0 p1 p2
        have hw : IntKind.i64.wrap (p + (m.length : Int)) = p + m.length := IntWalk.i64_in _ (by omega)
        by_cases h0 : p ≤ q
        · by_cases h1 : q < p + (m.length : Int)
          · obtain ⟨k, rfl⟩ : ∃ k : Nat, q = p + (k : Int) := ⟨(q - p).toNat, by omega⟩
            have hk : k < m.length := by omega
            have HV := Lib.hid (show byteV (byteL l (p + (k : Int))) = (m[k].toNat : Int) by
              rw [← HB.out, pcAt, if_pos (by show p ≤ _; omega)]
              show byteV ((m[(p + (k : Int) - p).toNat]?).or _) = _
              rw [show (p + (k : Int) - p).toNat = k by omega, List.getElem?_eq_getElem hk]
              rfl)
            have hk1 : (k : Int) < (m.length : Int) := by omega
            have hk0 : (0 : Int) ≤ (k : Int) := by omega
            have hk2 : IntKind.i64.wrap (k : Int) = k := IntWalk.i64_in _ (by omega)
            have hk3 : IntKind.i64.wrap (p + (k : Int) - p) = k := by rw [IntWalk.i64_in _ (by omega)]; omega
            have hk4 : p ≤ p + (k : Int) := h0
            have hk5 : p + (k : Int) < p + (m.length : Int) := h1
            go_wp2_with fail
            go_quiet (fail)
            go_wp2_with fail
            go_quiet (fail)
            go_wp2_with fail
            go_ret
            refine ⟨ret_i ?_, grownBy_trans (grownBy_trans HS.out.1 (grownBy_drewN _)) (grownBy_drewN _)⟩
            rw [HV.out]
            show wrap64 ((m[k].toNat : Nat) : Int) = _
            have := m[k].toNat_lt
            exact IntWalk.wrap64_in _ ⟨by omega, by omega⟩
          · have HV := Lib.hid (show byteL (l.drop (j + 1)) q = byteL l q by rw [← HB.out, pcAt_out (.inr (by show p + (m.length : Int) ≤ q; omega)), Option.none_or])
            have h1' : decide (q < p + (m.length : Int)) = false := decide_eq_false h1
            go_wp2_with fail
            go_quiet (fail)
            go_wp2_with fail
            go_roundw
            case rel => exact ⟨j + 1, hlt, by go_num, grownBy_trans HS.out.1 (grownBy_drewN _), HV.out⟩
            case measure => simp [intOf]; omega
        · have HV := Lib.hid (show byteL (l.drop (j + 1)) q = byteL l q by rw [← HB.out, pcAt_out (.inl (by show q < p; omega)), Option.none_or])
          have h0' : decide (p ≤ q) = false := decide_eq_false h0
          go_wp2_with fail
          go_quiet (fail)
          go_wp2_with fail
          go_roundw
          case rel => exact ⟨j + 1, hlt, by go_num, grownBy_trans HS.out.1 (grownBy_drewN _), HV.out⟩
          case measure => simp [intOf]; omega
    · obtain rfl : j = l.length := by omega
      have HV := Lib.hid (show byteV (byteL l q) = -1 by rw [← HS.out.2, List.drop_length]; rfl)
      go_wp2_with fail
      go_ret
      exact ⟨ret_i HV.out.symm, HS.out.1⟩

theorem endL_snoc (l : List Pk) (k : Nat) (h : l.length = k + 1) : endL l = (l[k]'(by omega)).1 + ((l[k]'(by omega)).2.length : Int) := by
  have e : l.getLast? = some (l[k]'(by omega)) := by rw [List.getLast?_eq_getElem?, show l.length - 1 = k by omega]; exact List.getElem?_eq_getElem (by omega)
  rw [endL, e]

set_option maxRecDepth 100000 in
set_option maxHeartbeats 4000000 in
theorem end_spec (a : Option Addr) (c : Nat) (l : List Pk) (w : World) (h : PkAt w a l) (hl : l.length ≤ 1000000) (hp : ∀ x ∈ l, pc2 x) : Calls Try.prog 50 #[.slice a l.length c] w fun e w' => e = .returned (.int .i64 (endL l)) ∧ w.grownBy w' none := by
  have H := Lib.hid (And.intro h hp)
  clear h hp
  by_cases hn : l.length = 0
  · have hb : ((l.length : Int) == 0) = true := by rw [beq_iff_eq]; omega
    have HE := Lib.hid (show endL l = 0 by rw [List.length_eq_zero_iff.mp hn]; rfl)
    clear hn
    go_enter Try.func50, Try.ntmps50
    go_wp2_with fail
    go_ret
    exact ⟨ret_i HE.out.symm, World.grownBy.refl _ _⟩
  · obtain ⟨k, hk⟩ : ∃ k, l.length = k + 1 := ⟨l.length - 1, by omega⟩
    have hb : ((l.length : Int) == 0) = false := by rw [beq_eq_false_iff_ne]; omega
    have HE := Lib.hid (endL_snoc l k hk)
    rcases H.out.1 with h0 | ⟨b, off, rfl, hbb, hc⟩
    · rw [h0] at hk
      simp at hk
    · obtain ⟨c0, c1⟩ := hc k (by omega)
      have hpx := H.out.2 _ (List.getElem_mem (show k < l.length by omega))
      clear hc hn
      generalize l[k]'(by omega) = x at *
      obtain ⟨p, m⟩ := x
      obtain ⟨p0, p1, p2⟩ := hpx
      dsimp only at c0 c1 p0 p1 p2 HE
      have hw : IntKind.i64.wrap (p + (m.length : Int)) = p + m.length := IntWalk.i64_in _ (by omega)
      have hk1 : (k : Int) < (l.length : Int) := by omega
      have hk2 : k < l.length := by omega
      have hk0 : (0 : Int) ≤ (k : Int) := by omega
      have hk3 : IntKind.i64.wrap ((l.length : Int) - 1) = k := by rw [IntWalk.i64_in _ (by omega)]; omega
      have HK := Lib.hid hk
      clear hk
      go_enter Try.func50, Try.ntmps50
      go_wp2_with fail
      go_quiet (fail)
      go_wp2_with fail
      go_ret
      exact ⟨ret_i HE.out.symm, grownBy_drewN _⟩

end Go.Proofs.Ytedhemllgpbheaa.P7

