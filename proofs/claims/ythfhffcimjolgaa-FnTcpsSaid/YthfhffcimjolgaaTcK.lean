/- A segment's text that was hurt, and still has the sum 0, has right flags. -/
import Derived.Test.YthfhffcimjolgaaTcY
import Derived.Test.YthfhffcimjolgaaHurP
namespace Go.Proofs.Ythfhffcimjolgaa
open Go.RowKit

theorem seg_pos (a b : Int) (s : List UInt8) (ha : 0 ≤ a ∧ a < 4294967296) (hb : 0 ≤ b ∧ b < 4294967296) (hs : s.length ≤ 1000) : 0 < tot (segL a b s) := by
  rw [seg_tot a b s ha hb hs]
  have h1 := tot_nonneg (putL a 4)
  have h2 := tot_nonneg (putL b 4)
  have h3 := tot_nonneg (putL s.length 2)
  have h4 := tot_nonneg s
  rw [tot_app _ _ (by rw [(p4 ha).1]), tot_app _ _ (by rw [(p4 hb).1]), tot_app _ _ (by rw [(p2 (x := 6) (by omega)).1]), tot_two 6 (by omega) (by omega)]
  omega
theorem seg_sum0 {a b f o s k g n : Int} {l : List Rg} {d : List UInt8} (h : tcpG a b f o s k g n l d) : segSum a b (tcpT a b f o s k g n l d) = 0 := by
  obtain ⟨h1, h2, h3⟩ := seg_zero a b f o s k g n l d h
  have hl := segL_len a b (tcpT a b f o s k g n l d)
  exact segSum_zero h1 (seg_pos a b _ h.1 h.2.1 (by omega)) (by omega)
theorem sum_mod {a b : Int} {u : List UInt8} (hs : u.length ≤ 1000) (hz : segSum a b u = 0) : tot (segL a b u) % 65535 = 0 := by
  have hl := segL_len a b u
  have hn := tot_nonneg (segL a b u)
  have e : segSum a b u = 65535 - fin16 (tot (segL a b u)) := sum16_tot _ (by omega)
  rw [e] at hz
  unfold fin16 at hz
  split at hz <;> omega
/-- One byte other: the sum tells. -/
theorem seg_change (a b : Int) (s : List UInt8) (ha : 0 ≤ a ∧ a < 4294967296) (hb : 0 ≤ b ∧ b < 4294967296) (hs : s.length ≤ 1000) (hz : tot (segL a b s) % 65535 = 0) (h13 : 13 < s.length) (y : UInt8) (hy : segSum a b (s.set 13 y) = 0) : y.toNat = s[13].toNat := by
  have hl : (s.set 13 y).length = s.length := List.length_set ..
  have e1 := seg_tot a b s ha hb hs
  have e2 := seg_tot a b (s.set 13 y) ha hb (by omega)
  rw [hl, tot_set s 13 y h13] at e2
  have e3 := sum_mod (by omega) hy
  generalize tot (segL a b (s.set 13 y)) = X at *
  generalize tot (segL a b s) = Y at *
  generalize tot (putL a 4 ++ (putL b 4 ++ (putL 6 2 ++ putL s.length 2))) = P at *
  generalize tot s = Q at *
  have hd : X = Y + (sumAt 13 y - sumAt 13 s[13]) := by omega
  unfold sumAt at hd
  have h1 := y.toNat_lt
  have h2 := s[13].toNat_lt
  simp at hd
  omega
theorem flag_at (s : List UInt8) (h : 13 < s.length) : fG s = (s[13].toNat : Int) := by
  unfold fG
  have e : (s.drop 13).take 1 = [s[13]] := by rw [List.drop_eq_getElem_cons h]; rfl
  rw [e, getBe_in _ (by simp)]
  show 256 * 0 + (((([s[13]] : List UInt8)).getD 0 0).toNat : Int) = _
  simp
theorem hurt_flags {a b f o s k g n : Int} {l : List Rg} {d u : List UInt8} (h : tcpG a b f o s k g n l d) (hu : HurtOf (tcpT a b f o s k g n l d) u) (hz : segSum a b u = 0) (h20 : 20 ≤ u.length) : 0 ≤ fG u ∧ fG u ≤ 63 := by
  obtain ⟨h1, h2, h3⟩ := seg_zero a b f o s k g n l d h
  have hg := (seg_read h (seg_sum0 h)).2.2.2.2.2.1
  have hok := h.2.2.1
  have g0 : 0 ≤ g ∧ g ≤ 63 := ⟨hok.2.2.2.2.2.2.2.2.1, hok.2.2.2.2.2.2.2.2.2.1⟩
  generalize tcpT a b f o s k g n l d = T at *
  rw [flag_at T (by omega)] at hg
  rcases hu with ⟨j, rfl⟩ | ⟨j, y, hj, rfl⟩ | ⟨z, rfl⟩
  · rw [List.length_take] at h20
    rw [flag_at _ (by rw [List.length_take]; omega), List.getElem_take, hg]
    exact g0
  · rw [List.length_set] at h20
    rw [flag_at _ (by rw [List.length_set]; omega)]
    by_cases he : j = 13
    · subst he
      have e := seg_change a b T h.1 h.2.1 (by omega) h1 (by omega) y hz
      rw [List.getElem_set_self, e, hg]
      exact g0
    · rw [List.getElem_set_ne he, hg]
      exact g0
  · rw [flag_at _ (by simp; omega), List.getElem_append_left (by omega), hg]
    exact g0

end Go.Proofs.Ythfhffcimjolgaa
