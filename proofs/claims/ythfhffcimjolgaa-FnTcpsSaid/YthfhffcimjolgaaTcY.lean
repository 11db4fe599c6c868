/- A right segment's text is read again. -/
import Derived.Test.YthfhffcimjolgaaTcV
namespace Go.Proofs.Ythfhffcimjolgaa
open Go.RowKit

theorem mid_at {x y z : List UInt8} {n a : Nat} (hx : x.length = n) (hy : y.length = a) : ((x ++ (y ++ z)).drop n).take a = y := by rw [List.drop_left' hx, List.take_left' hy]
theorem p1 {x : Int} (h : 0 ≤ x ∧ x < 256) : (putL x 1).length = 1 ∧ getBe (putL x 1) = x := ⟨putL_len x 1 (put1 h.1 h.2), get_put x 1 (put1 h.1 h.2)⟩
theorem p2 {x : Int} (h : 0 ≤ x ∧ x < 65536) : (putL x 2).length = 2 ∧ getBe (putL x 2) = x := ⟨putL_len x 2 (put2 h.1 h.2), get_put x 2 (put2 h.1 h.2)⟩
theorem p4 {x : Int} (h : 0 ≤ x ∧ x < 4294967296) : (putL x 4).length = 4 ∧ getBe (putL x 4) = x := ⟨putL_len x 4 (put4 h.1 h.2), get_put x 4 (put4 h.1 h.2)⟩
/-- Nine numbers of a head, read again. -/
theorem head_read {f o s k h g n m : Int} {r : List UInt8} (hf : 0 ≤ f ∧ f < 65536) (ho : 0 ≤ o ∧ o < 65536) (hs : 0 ≤ s ∧ s < 4294967296) (hk : 0 ≤ k ∧ k < 4294967296) (hh : 0 ≤ h ∧ h < 256) (hg : 0 ≤ g ∧ g < 256) (hn : 0 ≤ n ∧ n < 65536) (hm : 0 ≤ m ∧ m < 65536) {T : List UInt8}
    (hT : T = putL f 2 ++ (putL o 2 ++ (putL s 4 ++ (putL k 4 ++ (putL h 1 ++ (putL g 1 ++ (putL n 2 ++ (putL m 2 ++ (putL 0 2 ++ r))))))))) :
    fF T = f ∧ fO T = o ∧ fS T = s ∧ fK T = k ∧ fH T = h ∧ fG T = g ∧ fN T = n ∧ T.drop 20 = r ∧ T.length = 20 + r.length := by
  obtain ⟨lf, ef⟩ := p2 hf
  obtain ⟨lo, eo⟩ := p2 ho
  obtain ⟨ls, es⟩ := p4 hs
  obtain ⟨lk, ek⟩ := p4 hk
  obtain ⟨lh, eh⟩ := p1 hh
  obtain ⟨lg, eg⟩ := p1 hg
  obtain ⟨ln, en⟩ := p2 hn
  obtain ⟨lm, em⟩ := p2 hm
  obtain ⟨lz, ez⟩ := p2 (x := 0) (by omega)
  generalize putL f 2 = F at *
  generalize putL o 2 = O at *
  generalize putL s 4 = S at *
  generalize putL k 4 = K at *
  generalize putL h 1 = H at *
  generalize putL g 1 = G at *
  generalize putL n 2 = N at *
  generalize putL m 2 = M at *
  generalize putL 0 2 = Z at *
  have t0 : T = [] ++ (F ++ (O ++ (S ++ (K ++ (H ++ (G ++ (N ++ (M ++ (Z ++ r))))))))) := hT
  have t1 : T = F ++ (O ++ (S ++ (K ++ (H ++ (G ++ (N ++ (M ++ (Z ++ r)))))))) := hT
  have t2 : T = (F ++ O) ++ (S ++ (K ++ (H ++ (G ++ (N ++ (M ++ (Z ++ r))))))) := by rw [hT]; simp only [List.append_assoc]
  have t3 : T = (F ++ O ++ S) ++ (K ++ (H ++ (G ++ (N ++ (M ++ (Z ++ r)))))) := by rw [hT]; simp only [List.append_assoc]
  have t4 : T = (F ++ O ++ S ++ K) ++ (H ++ (G ++ (N ++ (M ++ (Z ++ r))))) := by rw [hT]; simp only [List.append_assoc]
  have t5 : T = (F ++ O ++ S ++ K ++ H) ++ (G ++ (N ++ (M ++ (Z ++ r)))) := by rw [hT]; simp only [List.append_assoc]
  have t6 : T = (F ++ O ++ S ++ K ++ H ++ G) ++ (N ++ (M ++ (Z ++ r))) := by rw [hT]; simp only [List.append_assoc]
  have t7 : T = (F ++ O ++ S ++ K ++ H ++ G ++ N ++ M ++ Z) ++ r := by rw [hT]; simp only [List.append_assoc]
  refine ⟨?_, ?_, ?_, ?_, ?_, ?_, ?_, ?_, ?_⟩
  · unfold fF; rw [t1, List.take_left' lf]; exact ef
  · unfold fO; rw [t1, mid_at lf lo]; exact eo
  · unfold fS; rw [t2, mid_at (by simp only [List.length_append]; omega) ls]; exact es
  · unfold fK; rw [t3, mid_at (by simp only [List.length_append]; omega) lk]; exact ek
  · unfold fH; rw [t4, mid_at (by simp only [List.length_append]; omega) lh]; exact eh
  · unfold fG; rw [t5, mid_at (by simp only [List.length_append]; omega) lg]; exact eg
  · unfold fN; rw [t6, mid_at (by simp only [List.length_append]; omega) ln]; exact en
  · rw [t7, List.drop_left' (by simp only [List.length_append]; omega)]
  · rw [t7]; simp only [List.length_append]; omega

theorem flat_drop : ∀ (l : List Rg) (j : Nat), (∀ x ∈ l, rgOk x) → j ≤ l.length → (l.flatMap rgL).drop (8 * j) = (l.drop j).flatMap rgL
  | l, 0, _, _ => by simp
  | [], j + 1, _, h => by simp at h
  | x :: l, j + 1, hl, h => by
    have hx := rgL_len x (hl x (List.mem_cons_self ..))
    have ih := flat_drop l j (fun y hy => hl y (List.mem_cons_of_mem _ hy)) (by simpa using h)
    rw [List.flatMap_cons, List.drop_succ_cons, ← ih, show 8 * (j + 1) = 8 + 8 * j by omega, ← List.drop_drop, List.drop_left' hx]
theorem rgsOf_flat (l : List Rg) (hl : ∀ x ∈ l, rgOk x) : rgsOfL (l.flatMap rgL) l.length = l := by
  refine List.ext_getElem (rgsOf_len _ _) fun j h1 h2 => ?_
  have e : (rgsOfL (l.flatMap rgL) l.length)[j] = rgAtL (l.flatMap rgL) j := by simp [rgsOfL]
  rw [e]
  have hx := hl l[j] (List.getElem_mem h2)
  obtain ⟨a0, a1, b0, b1⟩ := hx
  obtain ⟨la, ea⟩ := p4 ⟨a0, a1⟩
  obtain ⟨lb, eb⟩ := p4 ⟨b0, b1⟩
  have ed : (l.flatMap rgL).drop (8 * j) = putL (l[j]).1 4 ++ (putL (l[j]).2 4 ++ (l.drop (j + 1)).flatMap rgL) := by
    rw [flat_drop l j hl (by omega), List.drop_eq_getElem_cons h2, List.flatMap_cons]
    unfold rgL
    rw [List.append_assoc]
  unfold rgAtL
  rw [ed, List.take_left' la, mid_at la lb, ea, eb]
/-- What is told of ranges tells them. -/
theorem opt_read (l : List Rg) (h : sackP l) : optS ((optL l).length + 1) (optL l) [] = some l := by
  by_cases h0 : l = []
  · subst h0
    simp [optL, optS]
  · have hl := rgs_len l h.2
    have h1 : 1 ≤ l.length := by cases l with
      | nil => exact absurd rfl h0
      | cons x l => simp
    have h3 := h.1
    have hf := rgsOf_flat l h.2
    obtain ⟨n, hn⟩ : ∃ n : UInt8, optHead l.length = [1, 1, 5, n] ∧ n.toNat = 2 + 8 * l.length := by
      have : l.length = 1 ∨ l.length = 2 ∨ l.length = 3 := by omega
      rcases this with e | e | e <;> rw [e]
      · exact ⟨10, by rfl, by rfl⟩
      · exact ⟨18, by rfl, by rfl⟩
      · exact ⟨26, by rfl, by rfl⟩
    have eo : optL l = 1 :: 1 :: 5 :: n :: l.flatMap rgL := by unfold optL; rw [if_neg h0, hn.1]; rfl
    rw [eo]
    generalize l.flatMap rgL = R at *
    have ew : whole (5 :: n :: R) := ⟨by simp, by show 2 ≤ n.toNat; omega, by show n.toNat ≤ _; simp; omega⟩
    have eb : bodyL (5 :: n :: R) = R := by
      show ((5 :: n :: R).drop 2).take (n.toNat - 2) = R
      rw [hn.2]
      exact List.take_of_length_le (by show R.length ≤ _; omega)
    rw [show (1 :: 1 :: 5 :: n :: R).length + 1 = (R.length + 2) + 1 + 1 + 1 by simp, op_fill _ _ _ (by simp) rfl]
    show optS ((R.length + 2) + 1 + 1) (1 :: 5 :: n :: R) [] = _
    rw [op_fill _ _ _ (by simp) rfl]
    show optS ((R.length + 2) + 1) (5 :: n :: R) [] = _
    rw [op_sack _ _ _ (by simp) (by simp) ew rfl (by
      rw [eb]
      rintro (h | h | h)
      · exact h rfl
      · rw [h] at hl; simp at hl; omega
      · omega), eb, hl, show 8 * l.length / 8 = l.length by omega, hf]
    refine op_end _ _ _ (.inl ?_)
    show (5 :: n :: R).drop n.toNat = []
    exact List.drop_eq_nil_of_le (by simp; omega)

theorem segSum_zero {X : List UInt8} (h : tot X % 65535 = 0) (h0 : 0 < tot X) (hl : X.length ≤ 2000) : sum16 X = 0 := by
  rw [sum16_tot X hl]
  unfold fin16
  split <;> omega
/-- A right segment's text is read as that segment. -/
theorem seg_read {a b f o s k g n : Int} {l : List Rg} {d : List UInt8} (h : tcpG a b f o s k g n l d) (hz : segSum a b (tcpT a b f o s k g n l d) = 0) :
    rdT a b (fG (tcpT a b f o s k g n l d)) (tcpT a b f o s k g n l d) = some l ∧ fF (tcpT a b f o s k g n l d) = f ∧ fO (tcpT a b f o s k g n l d) = o ∧ fS (tcpT a b f o s k g n l d) = s ∧ fK (tcpT a b f o s k g n l d) = k ∧ fG (tcpT a b f o s k g n l d) = g ∧ fN (tcpT a b f o s k g n l d) = n ∧ (tcpT a b f o s k g n l d).drop (hdL (tcpT a b f o s k g n l d)) = d := by
  obtain ⟨_, _, hok⟩ := h
  have hok2 := hok
  obtain ⟨⟨f0, f1, o0, o1, s0, s1, k0, k1, g0, g1, n0, n1, hd⟩, hl⟩ := hok
  have hol := optL_len l hl
  have hol2 : (optL l).length = 0 ∨ (optL l).length = 12 ∨ (optL l).length = 20 ∨ (optL l).length = 28 := by
    have h3 := hl.1
    split at hol
    · exact .inl hol
    · rename_i hne
      have : 1 ≤ l.length := by cases l with
        | nil => exact absurd rfl hne
        | cons x l => simp
      omega
  have hm : 0 ≤ tcpSm a b f o s k g n l d ∧ tcpSm a b f o s k g n l d < 65536 := by
    unfold tcpSm
    have hh := tcpHd_len f o s k g n (aheadOf l) 0
    exact segSum_bd a b _ (by simp only [List.length_append]; omega)
  have ha : 0 ≤ aheadOf l ∧ aheadOf l < 256 := by unfold aheadOf; omega
  generalize hT : tcpT a b f o s k g n l d = T at *
  have hT2 : T = putL f 2 ++ (putL o 2 ++ (putL s 4 ++ (putL k 4 ++ (putL (aheadOf l) 1 ++ (putL g 1 ++ (putL n 2 ++ (putL (tcpSm a b f o s k g n l d) 2 ++ (putL 0 2 ++ (optL l ++ d))))))))) := by
    rw [← hT]
    unfold tcpT tcpHd tcpOl
    simp only [List.flatten_cons, List.flatten_nil, List.append_nil, List.append_assoc]
  obtain ⟨e1, e2, e3, e4, e5, e6, e7, e8, e9⟩ := head_read (by omega) (by omega) ⟨s0, s1⟩ ⟨k0, k1⟩ ha (by omega) (by omega) hm hT2
  have eh : hdL T = 20 + (optL l).length := by
    unfold hdL
    rw [e5]
    unfold aheadOf
    rcases hol2 with e | e | e | e <;> rw [e] <;> rfl
  have eop : opL T = optL l := by
    unfold opL
    rw [e8, eh]
    exact List.take_left' (by omega)
  have edr : T.drop (hdL T) = d := by
    rw [eh, ← List.drop_drop, e8]
    exact List.drop_left' rfl
  have erd : rdS T = some l := by unfold rdS; rw [eop]; exact opt_read l hl
  rw [List.length_append] at e9
  refine ⟨rd_yes ⟨by omega, hz, by omega, by omega, by omega⟩ erd ?_, e1, e2, e3, e4, e6, e7, edr⟩
  unfold rdG
  rw [e1, e2, e3, e4, e6, e7, edr]
  exact hok2

end Go.Proofs.Ythfhffcimjolgaa
