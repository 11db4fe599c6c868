/- The sum of a segment of which a bit is turned; what is read of it. -/
import Derived.Test.YthfhffcimjolgaaBxT
import Derived.Laws.IdiomStrings
namespace Go.Proofs.Ythfhffcimjolgaa
open Go.RowKit

theorem sumN_set (l : List UInt8) (i : Nat) (y : UInt8) (hi : i < l.length) : ∀ k, k ≤ l.length → sumN (l.set i y) k = sumN l k + (if i < k then sumAt i y - sumAt i l[i] else 0)
  | 0, _ => by simp [sumN]
  | k + 1, hk => by
    have h := sumN_set l i y hi k (by omega)
    rw [sumN, sumN, h]
    by_cases e : k = i
    · subst e
      have e1 : (l.set k y).getD k 0 = y := by simp [List.getD_eq_getElem?_getD, hi]
      have e2 : l.getD k 0 = l[k] := by simp [List.getD_eq_getElem?_getD, hi]
      rw [e1, e2, if_neg (by omega), if_pos (by omega)]
      omega
    · have e1 : (l.set i y).getD k 0 = l.getD k 0 := by simp [List.getD_eq_getElem?_getD, List.getElem?_set_ne (Ne.symm e)]
      rw [e1]
      by_cases h1 : i < k
      · rw [if_pos h1, if_pos (by omega)]
        omega
      · rw [if_neg h1, if_neg (by omega)]
        omega
theorem tot_set (l : List UInt8) (i : Nat) (y : UInt8) (hi : i < l.length) : tot (l.set i y) = tot l + (sumAt i y - sumAt i l[i]) := by
  have h := sumN_set l i y hi l.length (Nat.le_refl _)
  rw [if_pos hi] at h
  unfold tot
  rw [List.length_set]
  exact h
theorem seg_tot (a b : Int) (s : List UInt8) (ha : 0 ≤ a ∧ a < 4294967296) (hb : 0 ≤ b ∧ b < 4294967296) (hs : s.length ≤ 1000) : tot (segL a b s) = tot (putL a 4 ++ (putL b 4 ++ (putL 6 2 ++ putL s.length 2))) + tot s := by
  have la := four_len a ha.1 ha.2
  have lb := four_len b hb.1 hb.2
  have lc : (putL 6 2).length = 2 := two_len 6 (by omega) (by omega)
  have ld : (putL (s.length : Int) 2).length = 2 := two_len _ (by omega) (by omega)
  have e : segL a b s = (putL a 4 ++ (putL b 4 ++ (putL 6 2 ++ putL s.length 2))) ++ s := by rw [segL_flat]; simp only [List.append_assoc]
  rw [e, tot_app _ _ (by simp only [List.length_append, la, lb, lc, ld])]
theorem seg_flip (a b : Int) (s : List UInt8) (ha : 0 ≤ a ∧ a < 4294967296) (hb : 0 ≤ b ∧ b < 4294967296) (hs : s.length ≤ 1000) (hz : tot (segL a b s) % 65535 = 0) (i : Nat) (hi : i < s.length) (y : UInt8) (j : Nat) (hj : j < 8) (hy : (y.toNat : Int) = (s[i].toNat : Int) + 2 ^ j ∨ (y.toNat : Int) = (s[i].toNat : Int) - 2 ^ j) : segSum a b (s.set i y) ≠ 0 := by
  have hl : (s.set i y).length = s.length := List.length_set ..
  have e1 := seg_tot a b s ha hb hs
  have e2 := seg_tot a b (s.set i y) ha hb (by omega)
  rw [hl, tot_set s i y hi] at e2
  have hlen := segL_len a b (s.set i y)
  have e3 : segSum a b (s.set i y) = 65535 - fin16 (tot (segL a b (s.set i y))) := sum16_tot _ (by omega)
  have hn := tot_nonneg (segL a b (s.set i y))
  rw [e3]
  generalize tot (segL a b (s.set i y)) = X at *
  generalize tot (segL a b s) = Y at *
  generalize tot (putL a 4 ++ (putL b 4 ++ (putL 6 2 ++ putL s.length 2))) = P at *
  generalize tot s = Q at *
  have hd : X = Y + (sumAt i y - sumAt i s[i]) := by omega
  unfold sumAt at hd
  generalize (s[i].toNat : Int) = u at *
  generalize (y.toNat : Int) = v at *
  have h8 : (2 : Int) ^ j = 1 ∨ (2 : Int) ^ j = 2 ∨ (2 : Int) ^ j = 4 ∨ (2 : Int) ^ j = 8 ∨ (2 : Int) ^ j = 16 ∨ (2 : Int) ^ j = 32 ∨ (2 : Int) ^ j = 64 ∨ (2 : Int) ^ j = 128 := by
    match j, hj with
    | 0, _ => exact .inl rfl
    | 1, _ => exact .inr (.inl rfl)
    | 2, _ => exact .inr (.inr (.inl rfl))
    | 3, _ => exact .inr (.inr (.inr (.inl rfl)))
    | 4, _ => exact .inr (.inr (.inr (.inr (.inl rfl))))
    | 5, _ => exact .inr (.inr (.inr (.inr (.inr (.inl rfl)))))
    | 6, _ => exact .inr (.inr (.inr (.inr (.inr (.inr (.inl rfl))))))
    | 7, _ => exact .inr (.inr (.inr (.inr (.inr (.inr (.inr rfl))))))
  generalize (2 : Int) ^ j = p at *
  have hX : X % 65535 ≠ 0 := by
    split at hd <;> rcases hy with hy | hy <;> rcases h8 with h | h | h | h | h | h | h | h <;> omega
  unfold fin16
  split <;> omega
theorem tot_two (m : Int) (h0 : 0 ≤ m) (h1 : m < 65536) : tot (putL m 2) = m := by
  rw [putL_ok (put2 h0 h1)]
  show tot (beL m.toNat 2) = _
  rw [beL_2]
  simp [tot, sumN, sumAt]
  omega
theorem hd_split (f o s k g n h m : Int) : tcpHd f o s k g n h m = (putL f 2 ++ (putL o 2 ++ (putL s 4 ++ (putL k 4 ++ (putL h 1 ++ (putL g 1 ++ putL n 2)))))) ++ (putL m 2 ++ putL 0 2) := by
  unfold tcpHd tcpOl
  simp only [List.flatten_cons, List.flatten_nil, List.append_nil, List.append_assoc]
/-- A segment with its sum has a sum that goes round. -/
theorem seg_zero (a b f o s k g n : Int) (l : List Rg) (d : List UInt8) (h : tcpG a b f o s k g n l d) : tot (segL a b (tcpT a b f o s k g n l d)) % 65535 = 0 ∧ (tcpT a b f o s k g n l d).length ≤ 248 ∧ 20 ≤ (tcpT a b f o s k g n l d).length := by
  obtain ⟨ha, hb, hA, hS⟩ := h
  obtain ⟨f0, f1, o0, o1, s0, s1, k0, k1, g0, g1, n0, n1, hd⟩ := hA
  have hol := optL_len l hS
  have hsl := hS.1
  have hq : (optL l).length ≤ 28 := by rw [hol]; split <;> omega
  have hh : 0 ≤ aheadOf l ∧ aheadOf l < 256 := by unfold aheadOf; omega
  have hm := segSum_bd a b (tcpHd f o s k g n (aheadOf l) 0 ++ (optL l ++ d)) (by have := tcpHd_len f o s k g n (aheadOf l) 0; simp only [List.length_append]; omega)
  have b1 := two_len f f0 (by omega)
  have b2 := two_len o o0 (by omega)
  have b3 := four_len s s0 s1
  have b4 := four_len k k0 k1
  have b5 : (putL (aheadOf l) 1).length = 1 := putL_len _ 1 ⟨by omega, by omega, hh.1, by simpa using hh.2⟩
  have g2 : g < 256 := by omega
  have b6 : (putL g 1).length = 1 := putL_len _ 1 ⟨by omega, by omega, g0, by simpa using g2⟩
  have b7 := two_len n n0 (by omega)
  have b9 := two_len 0 (by omega) (by omega)
  have hP : (putL f 2 ++ (putL o 2 ++ (putL s 4 ++ (putL k 4 ++ (putL (aheadOf l) 1 ++ (putL g 1 ++ putL n 2)))))).length = 16 := by simp only [List.length_append, b1, b2, b3, b4, b5, b6, b7]
  have hL : ∀ m, 0 ≤ m → m < 65536 → (tcpHd f o s k g n (aheadOf l) m ++ (optL l ++ d)).length = 20 + ((optL l).length + d.length) := by
    intro m h0 h1
    have := two_len m h0 h1
    rw [hd_split, List.length_append, List.length_append, hP]
    simp only [List.length_append]
    omega
  have hT : ∀ m, 0 ≤ m → m < 65536 → tot (tcpHd f o s k g n (aheadOf l) m ++ (optL l ++ d)) = tot (putL f 2 ++ (putL o 2 ++ (putL s 4 ++ (putL k 4 ++ (putL (aheadOf l) 1 ++ (putL g 1 ++ putL n 2)))))) + (m + tot (putL 0 2 ++ (optL l ++ d))) := by
    intro m h0 h1
    have hm2 := two_len m h0 h1
    rw [hd_split]
    generalize putL f 2 ++ (putL o 2 ++ (putL s 4 ++ (putL k 4 ++ (putL (aheadOf l) 1 ++ (putL g 1 ++ putL n 2))))) = A at *
    rw [List.append_assoc A, List.append_assoc (putL m 2), tot_app A _ (by rw [hP]), tot_app (putL m 2) _ (by rw [hm2]), tot_two m h0 h1]
  have hW : tcpT a b f o s k g n l d = tcpHd f o s k g n (aheadOf l) (segSum a b (tcpHd f o s k g n (aheadOf l) 0 ++ (optL l ++ d))) ++ (optL l ++ d) := rfl
  have hs0 : segSum a b (tcpHd f o s k g n (aheadOf l) 0 ++ (optL l ++ d)) = 65535 - fin16 (tot (segL a b (tcpHd f o s k g n (aheadOf l) 0 ++ (optL l ++ d)))) := sum16_tot _ (by have := segL_len a b (tcpHd f o s k g n (aheadOf l) 0 ++ (optL l ++ d)); have := hL 0 (by omega) (by omega); omega)
  have hn := tot_nonneg (segL a b (tcpHd f o s k g n (aheadOf l) 0 ++ (optL l ++ d)))
  have hl0 := hL 0 (by omega) (by omega)
  have hl1 := hL _ hm.1 hm.2
  rw [hW]
  refine ⟨?_, by omega, by omega⟩
  have e0 := seg_tot a b (tcpHd f o s k g n (aheadOf l) 0 ++ (optL l ++ d)) ha hb (by omega)
  have e1 := seg_tot a b (tcpHd f o s k g n (aheadOf l) (segSum a b (tcpHd f o s k g n (aheadOf l) 0 ++ (optL l ++ d))) ++ (optL l ++ d)) ha hb (by omega)
  rw [hl1, hT _ hm.1 hm.2] at e1
  rw [hl0, hT 0 (by omega) (by omega)] at e0
  rw [e1]
  generalize segSum a b (tcpHd f o s k g n (aheadOf l) 0 ++ (optL l ++ d)) = m at *
  generalize tot (segL a b (tcpHd f o s k g n (aheadOf l) 0 ++ (optL l ++ d))) = t0 at *
  rw [e0] at hs0
  generalize tot (putL f 2 ++ (putL o 2 ++ (putL s 4 ++ (putL k 4 ++ (putL (aheadOf l) 1 ++ (putL g 1 ++ putL n 2)))))) = A at *
  generalize tot (putL 0 2 ++ (optL l ++ d)) = B at *
  generalize tot (putL a 4 ++ (putL b 4 ++ (putL 6 2 ++ putL (((20 + ((optL l).length + d.length) : Nat)) : Int) 2))) = C at *
  unfold fin16 at hs0
  split at hs0 <;> omega

set_option maxRecDepth 100000 in
set_option maxHeartbeats 1000000 in
theorem read_no (a b : Int) (s : List UInt8) (w : World) (ha : 0 ≤ a ∧ a < 4294967296) (hb : 0 ≤ b ∧ b < 4294967296) (hs : s.length ≤ 300) (hz : segSum a b s ≠ 0) : Calls Try.prog 8 #[.int .i64 a, .int .i64 b, .string ⟨s.toArray⟩] w fun e w' => e = .returned (.tuple #[.agg #[.int .i64 0, .int .i64 0, .int .i64 0, .int .i64 0, .int .i64 0, .int .i64 0, .slice none 0 0, .string ⟨#[]⟩], .bool false]) ∧ w.grownBy w' none := by
  have HB := Lib.hid (And.intro (World.grownBy_alloc w (.cells #[.int .i64 0, .int .i64 0, .int .i64 0, .int .i64 0, .int .i64 0, .int .i64 0, .slice none 0 0, .string ⟨#[]⟩] 26) none) (Bx.new w 26 #[.int .i64 0, .int .i64 0, .int .i64 0, .int .i64 0, .int .i64 0, .int .i64 0, .slice none 0 0, .string ⟨#[]⟩]))
  have ga : goesB a = true := by unfold goesB; simp; omega
  have gb : goesB b = true := by unfold goesB; simp; omega
  have HG := Lib.hid (And.intro ga gb)
  have hs3 : ¬ (300 : Int) < (s.length : Int) := by omega
  have hs4 : (s.length : Int) ≤ 300 := by omega
  obtain ⟨z, hzz⟩ : ∃ z, segSum a b s = z := ⟨_, rfl⟩
  have HZ := Lib.hid hzz
  have hz0 : (z != 0) = true := by rw [← hzz]; simpa using hz
  have HH := Lib.hid (And.intro ha hb)
  clear ha hb hz hzz ga gb
  go_enter Try.func8, Try.ntmps8
  go_wp2_with (go_at_call 18; refine (goes_any _ _).mono ?_; rintro e w' ⟨rfl, rfl⟩; first | rw [HG.out.1] | rw [HG.out.2])
  refine (seg_impl a b s _ HH.out.1 HH.out.2 (by omega)).mono ?_
  rintro e w2 ⟨rfl, hg⟩
  rw [HZ.out]
  have H2 := Lib.hid (And.intro (grownBy_trans HB.out.1 hg) (HB.out.2.keep hg))
  clear hg HB
  have z0 := H2.out.2.c 0 (x := .int .i64 0) rfl
  have z1 := H2.out.2.c 1 (x := .int .i64 0) rfl
  have z2 := H2.out.2.c 2 (x := .int .i64 0) rfl
  have z3 := H2.out.2.c 3 (x := .int .i64 0) rfl
  have z4 := H2.out.2.c 4 (x := .int .i64 0) rfl
  have z5 := H2.out.2.c 5 (x := .int .i64 0) rfl
  have z6 := H2.out.2.c 6 (x := .slice none 0 0) rfl
  have z7 := H2.out.2.c 7 (x := .string ⟨#[]⟩) rfl
  have x0 := H2.out.2.f 0
  have x1 := H2.out.2.f 1
  have x2 := H2.out.2.f 2
  have x3 := H2.out.2.f 3
  have x4 := H2.out.2.f 4
  have x5 := H2.out.2.f 5
  have x6 := H2.out.2.f 6
  have x7 := H2.out.2.f 7
  have lr := H2.out.2.lt
  have HF := Lib.hid (res8_grown (R := w.heap.size) (.int .i64 0) (.int .i64 0) (.int .i64 0) (.int .i64 0) (.int .i64 0) (.int .i64 0) (.slice none 0 0) (.string ⟨#[]⟩) H2.out.1 (Nat.le_refl _))
  go_wp2_with fail
  exact bodyPost_ret (v := .tuple #[.agg #[.int .i64 0, .int .i64 0, .int .i64 0, .int .i64 0, .int .i64 0, .int .i64 0, .slice none 0 0, .string ⟨#[]⟩], .bool false]) (by simp [results, Try.results8, go_sem, z0, z1, z2, z3, z4, z5, z6, z7]) rfl ⟨rfl, HF.out⟩

/-- A bit turned in a byte. -/
theorem bit_turned : ∀ (n : Fin 256) (j : Fin 8), bits .xor .u8 ((n.val : Nat) : Int) ((2 ^ j.val : Nat) : Int) = ((n.val ^^^ 2 ^ j.val : Nat) : Int) ∧ (n.val ^^^ 2 ^ j.val) < 256 ∧ ((n.val ^^^ 2 ^ j.val) = n.val + 2 ^ j.val ∨ (n.val ^^^ 2 ^ j.val) + 2 ^ j.val = n.val) := by
  decide +kernel
/-- The byte behind it. -/
theorem byte_turned (x : UInt8) (j : Nat) (hj : j < 8) : ∃ y : UInt8, bits .xor .u8 (x.toNat : Int) ((2 ^ j : Nat) : Int) = (y.toNat : Int) ∧ ((y.toNat : Int) = (x.toNat : Int) + 2 ^ j ∨ (y.toNat : Int) = (x.toNat : Int) - 2 ^ j) := by
  obtain ⟨h1, h2, h3⟩ := bit_turned ⟨x.toNat, x.toNat_lt⟩ ⟨j, hj⟩
  dsimp only at h1 h2 h3
  have e : (UInt8.ofNat (x.toNat ^^^ 2 ^ j)).toNat = x.toNat ^^^ 2 ^ j := by
    rw [UInt8.toNat_ofNat']
    exact Nat.mod_eq_of_lt h2
  refine ⟨UInt8.ofNat (x.toNat ^^^ 2 ^ j), by rw [e]; exact h1, ?_⟩
  rw [e]
  have ep : ((2 ^ j : Nat) : Int) = (2 : Int) ^ j := by simp
  rcases h3 with h3 | h3
  · left
    omega
  · right
    omega
/-- The bytes of a text in a row of one's own. -/
structure BRow (W : World) (X : Nat) (T : List UInt8) : Prop where
  c : ∀ j (h : j < T.length), W.cell? ⟨X, j, none⟩ = some (.int .u8 (T[j].toNat : Int))
  f : ∀ j, j < T.length → W.frozen? ⟨X, j, none⟩ = false
  lt : X < W.heap.size
theorem brow_new (w : World) (T : List UInt8) (c : Nat) : BRow (w.drew.alloc (.cells (bytesRow ⟨T.toArray⟩ c) 5 ((bytesRow ⟨T.toArray⟩ c).size, (bytesRow ⟨T.toArray⟩ c).size + 1))) w.heap.size T := by
  have hh : ∀ (C : Array Value) (z : Nat × Nat), (w.drew.alloc (.cells C 5 z)).heap[w.heap.size]? = some (.cells C 5 z) := fun C z => by
    show (w.heap.push (.cells C 5 z))[w.heap.size]? = _
    simp
  have hc : ∀ j (h : j < T.length), (bytesRow ⟨T.toArray⟩ c)[j]? = some (Value.int .u8 (T[j].toNat : Int)) := fun j h => by
    unfold bytesRow
    rw [Array.getElem?_append_left (by simpa using h)]
    simp [h]
  have hs : ∀ j, j < T.length → j < (bytesRow ⟨T.toArray⟩ c).size := fun j h => (Array.getElem?_eq_some_iff.1 (hc j h)).1
  generalize bytesRow ⟨T.toArray⟩ c = C at *
  have h1 := hh C (C.size, C.size + 1)
  clear hh
  generalize w.drew.alloc (.cells C 5 (C.size, C.size + 1)) = W at *
  refine ⟨fun j h => ?_, fun j h => ?_, (Array.getElem?_eq_some_iff.1 h1).1⟩
  · simp [World.cell?, h1, hc j h]
  · have := hs j h
    simp [World.frozen?, h1]
    omega
theorem brow_back {W : World} {X : Nat} {T : List UInt8} (h : BRow W X T) (i : Nat) (y : UInt8) (hi : i < T.length) (c : Nat) : (convert 22 9 (.slice (some ⟨X, 0, none⟩) T.length c)).run Try.prog (W.setCell ⟨X, i, none⟩ (.int .u8 (y.toNat : Int))) = .ok (.string ⟨(T.set i y).toArray⟩) (W.setCell ⟨X, i, none⟩ (.int .u8 (y.toNat : Int))) := by
  have k := run_convert_bytes_back (P := Try.prog) (W.setCell ⟨X, i, none⟩ (.int .u8 (y.toNat : Int))) 22 9 5 ⟨X, 0, none⟩ c (T.set i y) Try.underlying22 Try.underlying5 Try.underlying9 (fun j hj => by
    have hj' : j < T.length := by simpa using hj
    have e : ((⟨X, 0, none⟩ : Addr).add j) = ⟨X, j, none⟩ := by
      unfold Addr.add
      split <;> simp_all
    rw [e]
    have c0 := h.c j hj'
    have ci := h.c i hi
    by_cases hij : j = i
    · subst hij
      rw [List.getElem_set_self]
      go_simp
    · rw [List.getElem_set_ne (Ne.symm hij)]
      go_simp)
  rw [List.length_set] at k
  exact k

end Go.Proofs.Ythfhffcimjolgaa
