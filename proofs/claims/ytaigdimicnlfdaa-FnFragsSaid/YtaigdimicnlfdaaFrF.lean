/- Fragments of a text make it whole, in their order, turned and doubled; without one of several they do not. Lists alone. -/
import Derived.Test.YtaigdimicnlfdaaFrV
namespace Go.Proofs.Ytaigdimicnlfdaa
open Go.RowKit Go.Maps

def subP (s : List UInt8) (a b : Nat) : Pk := ((a : Int), (s.drop a).take (b - a))
def frAt (s : List UInt8) (z c : Nat) : Fg := ⟨(c : Int) / 8, decide (c + z < s.length), (s.drop c).take (min (c + z) s.length - c)⟩

theorem sub_len {s : List UInt8} {a b : Nat} (h : b ≤ s.length) : (subP s a b).2.length = b - a := by
  simp only [subP, List.length_take, List.length_drop]; omega

theorem sub_at {s : List UInt8} {a b : Nat} (t : Int) : pcAt (subP s a b) t = if (a : Int) ≤ t ∧ t < (b : Int) then s[t.toNat]? else none := by
  unfold pcAt
  by_cases h0 : (a : Int) ≤ t
  · rw [if_pos (by exact h0)]
    obtain ⟨k, rfl⟩ : ∃ k : Nat, t = (a : Int) + k := ⟨(t - a).toNat, by omega⟩
    have e1 : ((a : Int) + k - (subP s a b).1).toNat = k := by simp only [subP]; omega
    have e2 : ((a : Int) + k).toNat = a + k := by omega
    rw [e1, e2]
    simp only [subP]
    by_cases h1 : (a : Int) + k < (b : Int)
    · rw [if_pos ⟨h0, h1⟩, List.getElem?_take_of_lt (by omega), List.getElem?_drop]
    · rw [if_neg (by omega), List.getElem?_eq_none (by simp only [List.length_take]; omega)]
  · rw [if_neg (by exact h0), if_neg (by omega)]

theorem good_one {p : Pk} (h : p.2 ≠ []) : Good [p] := ⟨by simp, by simpa using h⟩
theorem one_byte (p : Pk) (t : Int) : byteL [p] t = pcAt p t := by simp [byteL]
theorem sub_ne {s : List UInt8} {a b : Nat} (h : a < b) (hb : b ≤ s.length) : (subP s a b).2 ≠ [] := by
  intro e
  have := sub_len (s := s) (a := a) hb
  rw [e] at this
  simp at this
  omega

theorem join_sub {s : List UInt8} {a b c d : Nat} (h1 : a < b) (h2 : c < d) (hb : b ≤ s.length) (hd : d ≤ s.length) (hcb : c ≤ b) (had : a ≤ d) : withL [subP s a b] (subP s c d) = [subP s (min a c) (max b d)] := by
  have hg := with_good [subP s a b] (subP s c d) (good_one (sub_ne h1 hb)) (sub_ne h2 hd)
  refine good_eq hg.1 (good_one (sub_ne (by omega) (by omega))) fun t => ?_
  rw [hg.2 t, one_byte, one_byte, sub_at, sub_at, sub_at]
  by_cases k1 : (a : Int) ≤ t ∧ t < (b : Int)
  · obtain ⟨k, rfl⟩ : ∃ k : Nat, t = (k : Int) := ⟨t.toNat, by omega⟩
    have hk : s[((k : Nat) : Int).toNat]? = some (s[k]'(by omega)) := by rw [Int.toNat_natCast, List.getElem?_eq_getElem (by omega)]
    by_cases k2 : (c : Int) ≤ (k : Int) ∧ (k : Int) < (d : Int)
    · rw [if_pos k1, if_pos k2, if_pos (by omega), hk]; rfl
    · rw [if_pos k1, if_neg k2, if_pos (by omega), hk]; rfl
  · by_cases k2 : (c : Int) ≤ t ∧ t < (d : Int)
    · rw [if_neg k1, if_pos k2, if_pos (by omega)]; rfl
    · rw [if_neg k1, if_neg k2, if_neg (by omega)]; rfl

theorem first_sub {s : List UInt8} {c d : Nat} : withL [] (subP s c d) = [subP s c d] := by simp [withL]

theorem pcs_one {s : List UInt8} {a b : Nat} (h : a < b) (hb : b ≤ s.length) (hs : s.length ≤ 1000) : pcsOk [subP s a b] = true := by
  refine pcs_yes ⟨by simp, ?_, by intro i h; simp at h⟩
  intro x hx
  obtain rfl := List.mem_singleton.mp hx
  have := sub_len (s := s) (a := a) hb
  unfold pc1
  rw [this]
  simp only [subP]
  omega

theorem sub_in {s : List UInt8} {c d : Nat} (h2 : c < d) (hd : d ≤ s.length) (hs : s.length ≤ 1000) (h3 : d - c ≤ 300) : pcIn 5000 300 (subP s c d) = true := by
  have := sub_len (s := s) (a := c) hd
  unfold pcIn
  rw [this, decide_eq_true_eq]
  simp only [subP]
  omega

theorem st_join {s : List UInt8} {a b c d : Nat} {x : Fg} (hx : pcF x = subP s c d) (h1 : a < b) (h2 : c < d) (hb : b ≤ s.length) (hd : d ≤ s.length) (hcb : c ≤ b) (had : a ≤ d) (hs : s.length ≤ 1000) (h3 : d - c ≤ 300) :
    stA (some [subP s a b]) x = some [subP s (min a c) (max b d)] := by
  have hj := join_sub h1 h2 hb hd hcb had
  have ha : addOk [subP s a b] (pcF x) = true := by
    unfold addOk
    rw [hx, hj, pcs_one h1 hb hs, sub_in h2 hd hs h3, pcs_one (by omega) (by omega) hs]
    rfl
  unfold stA
  simp only [Option.bind_some, ha, if_true]
  rw [hx, hj]

theorem st_first {s : List UInt8} {c d : Nat} {x : Fg} (hx : pcF x = subP s c d) (h2 : c < d) (hd : d ≤ s.length) (hs : s.length ≤ 1000) (h3 : d - c ≤ 300) :
    stA (some []) x = some [subP s c d] := by
  have hj := first_sub (s := s) (c := c) (d := d)
  have ha : addOk [] (pcF x) = true := by
    unfold addOk
    rw [hx, hj, pcs_nil, sub_in h2 hd hs h3, pcs_one (by omega) (by omega) hs]
    rfl
  unfold stA
  simp only [Option.bind_some, ha, if_true]
  rw [hx, hj]

theorem at_pc {s : List UInt8} {z c : Nat} (h8 : c % 8 = 0) : pcF (frAt s z c) = subP s c (min (c + z) s.length) := by
  unfold pcF frAt subP
  have : 8 * ((c : Int) / 8) = (c : Int) := by omega
  rw [this]

theorem at_end {s : List UInt8} {z c : Nat} (h8 : c % 8 = 0) (hc : c < s.length) : endX (frAt s z c) = ((min (c + z) s.length : Nat) : Int) := by
  unfold endX frAt
  have h1 : 8 * ((c : Int) / 8) = (c : Int) := by omega
  have h2 : ((s.drop c).take (min (c + z) s.length - c)).length = min (c + z) s.length - c := by simp only [List.length_take, List.length_drop]; omega
  rw [h1, h2]
  omega

theorem at_fr {s : List UInt8} {z c : Nat} (h8 : c % 8 = 0) (hz : z % 8 = 0) (hz0 : 8 ≤ z) (hz1 : z ≤ 296) (hc : c < s.length) (hs : s.length ≤ 1000) : frG (frAt s z c) := by
  have h2 : ((s.drop c).take (min (c + z) s.length - c)).length = min (c + z) s.length - c := by simp only [List.length_take, List.length_drop]; omega
  unfold frG frP frAt
  dsimp only
  rw [h2]
  refine ⟨by omega, by omega, by omega, by omega, ?_⟩
  by_cases hm : c + z < s.length
  · right; omega
  · left; exact decide_eq_false hm

theorem cut_one (s : List UInt8) (z f a : Nat) (h : a < s.length) : cutF s z (f + 1) a = frAt s z a :: cutF s z f (a + z) := cut_more s z f a h

theorem cut_at {s : List UInt8} {z : Nat} : ∀ (f a k : Nat) (h : k < (cutF s z f a).length), (cutF s z f a)[k] = frAt s z (a + k * z) ∧ a + k * z < s.length
  | 0, a, k, h => by simp [cutF] at h
  | f + 1, a, k, h => by
    by_cases ha : a < s.length
    · have e := cut_one s z f a ha
      cases k with
      | zero =>
        refine ⟨?_, by omega⟩
        simp only [e, List.getElem_cons_zero, Nat.zero_mul, Nat.add_zero]
      | succ k =>
        have hk : k < (cutF s z f (a + z)).length := by rw [e] at h; simpa using h
        have ih := cut_at f (a + z) k hk
        have e2 : a + (k + 1) * z = a + z + k * z := by rw [Nat.add_mul]; omega
        rw [e2]
        refine ⟨?_, ih.2⟩
        simp only [e, List.getElem_cons_succ]
        exact ih.1
    · rw [cut_end _ _ _ _ ha] at h
      simp at h

theorem cut_last {s : List UInt8} {z : Nat} (hz : 0 < z) : ∀ (f a : Nat), a < s.length → s.length < a + f → ∃ x ∈ cutF s z f a, x.m = false
  | 0, a, h, hf => by omega
  | f + 1, a, h, hf => by
    rw [cut_one s z f a h]
    by_cases hm : a + z < s.length
    · obtain ⟨x, hx, hxm⟩ := cut_last hz f (a + z) hm (by omega)
      exact ⟨x, List.mem_cons_of_mem _ hx, hxm⟩
    · exact ⟨_, List.mem_cons_self .., decide_eq_false hm⟩

theorem cut_fold {s : List UInt8} {z : Nat} (hz : z % 8 = 0) (hz0 : 8 ≤ z) (hz1 : z ≤ 296) (hs : s.length ≤ 1000) : ∀ (f a : Nat), a % 8 = 0 → 0 < a → 0 < s.length → s.length < a + f → (cutF s z f a).foldl stA (some [subP s 0 (min a s.length)]) = some [subP s 0 s.length]
  | 0, a, h8, ha, h0, hf => by
    rw [show cutF s z 0 a = [] from rfl, List.foldl_nil, Nat.min_eq_right (by omega)]
  | f + 1, a, h8, ha, h0, hf => by
    by_cases h : a < s.length
    · rw [cut_one s z f a h, List.foldl_cons, st_join (at_pc h8) (by omega) (by omega) (by omega) (by omega) (by omega) (by omega) hs (by omega)]
      have e1 : min 0 a = 0 := by omega
      have e2 : max (min a s.length) (min (a + z) s.length) = min (a + z) s.length := by omega
      rw [e1, e2]
      exact cut_fold hz hz0 hz1 hs f (a + z) (by omega) (by omega) h0 (by omega)
    · rw [cut_end _ _ _ _ h, List.foldl_nil, Nat.min_eq_right (by omega)]

def dupF (l : List Fg) : List Fg := l.reverse.flatMap fun x => [x, x]
theorem dup_cons (x : Fg) (l : List Fg) : dupF (x :: l) = dupF l ++ [x, x] := by simp [dupF, List.flatMap_append]
theorem dup_len (l : List Fg) : (dupF l).length = 2 * l.length := by
  induction l with
  | nil => rfl
  | cons x l ih => rw [dup_cons, List.length_append, ih]; simp; omega
theorem dup_mem {l : List Fg} {x : Fg} : x ∈ dupF l ↔ x ∈ l := by simp [dupF]

theorem dup_fold {s : List UInt8} {z : Nat} (hz : z % 8 = 0) (hz0 : 8 ≤ z) (hz1 : z ≤ 296) (hs : s.length ≤ 1000) : ∀ (f a : Nat), a % 8 = 0 → s.length < a + f → (dupF (cutF s z f a)).foldl stA (some []) = if a < s.length then some [subP s a s.length] else some []
  | 0, a, h8, hf => by
    rw [if_neg (by omega)]
    rfl
  | f + 1, a, h8, hf => by
    by_cases h : a < s.length
    · rw [cut_one s z f a h, dup_cons, List.foldl_append, dup_fold hz hz0 hz1 hs f (a + z) (by omega) (by omega), if_pos h, List.foldl_cons, List.foldl_cons, List.foldl_nil]
      have hp := at_pc (s := s) (z := z) h8
      by_cases h2 : a + z < s.length
      · rw [if_pos h2, st_join hp (by omega) (by omega) (by omega) (by omega) (by omega) (by omega) hs (by omega)]
        have e1 : min (a + z) a = a := by omega
        have e2 : max s.length (min (a + z) s.length) = s.length := by omega
        rw [e1, e2, st_join hp (by omega) (by omega) (by omega) (by omega) (by omega) (by omega) hs (by omega)]
        have e3 : min a a = a := by omega
        rw [e3, e2]
      · rw [if_neg h2, st_first hp (by omega) (by omega) hs (by omega)]
        have e0 : min (a + z) s.length = s.length := by omega
        rw [e0] at hp ⊢
        rw [st_join hp (by omega) (by omega) (by omega) (by omega) (by omega) (by omega) hs (by omega)]
        have e3 : min a a = a := by omega
        have e4 : max s.length s.length = s.length := by omega
        rw [e3, e4]
    · rw [cut_end _ _ _ _ h, if_neg h]
      rfl

theorem frags_eq {s : List UInt8} {z : Int} (h : frsP s z) : fragsL s z = cutF s z.toNat (s.length + 1) 0 := if_pos h

theorem frags_fr {s : List UInt8} {z : Int} (h : frsP s z) {x : Fg} (hx : x ∈ fragsL s z) : frG x ∧ (x.m = false → endX x = (s.length : Int)) := by
  rw [frags_eq h] at hx
  obtain ⟨k, hk, rfl⟩ := List.getElem_of_mem hx
  obtain ⟨e, hlt⟩ := cut_at _ _ k hk
  obtain ⟨h1, h2, h3, h4, h5, h6⟩ := h
  rw [e]
  have h8 : (0 + k * z.toNat) % 8 = 0 := by
    have : z.toNat % 8 = 0 := by omega
    rw [Nat.zero_add, Nat.mul_mod, this]
    simp
  refine ⟨at_fr h8 (by omega) (by omega) (by omega) hlt h2, fun hm => ?_⟩
  rw [at_end h8 hlt]
  have hm2 : ¬ (0 + k * z.toNat + z.toNat < s.length) := of_decide_eq_false hm
  omega

theorem sub_all (s : List UInt8) : subP s 0 s.length = (0, s) := by simp [subP]

theorem frags_wp {s : List UInt8} {z : Int} (h : frsP s z) (hl : (fragsL s z).length ≤ 100) : WP (fragsL s z) s ∧ WP (dupF (fragsL s z)) s := by
  have hf := fun x hx => frags_fr h (x := x) hx
  obtain ⟨h1, h2, h3, h4, h5, h6⟩ := id h
  have hlast := cut_last (s := s) (z := z.toNat) (by omega) (s.length + 1) 0 (by omega) (by omega)
  rw [← frags_eq h] at hlast
  obtain ⟨y, hy, hym⟩ := hlast
  refine ⟨⟨fun x hx => (hf x hx).1, by omega, ⟨y, hy, hym⟩, fun x hx => (hf x hx).2, ?_⟩, ⟨fun x hx => (hf x (dup_mem.mp hx)).1, by rw [dup_len]; omega, ⟨y, dup_mem.mpr hy, hym⟩, fun x hx => (hf x (dup_mem.mp hx)).2, ?_⟩⟩
  · rw [frags_eq h, foldA, cut_one _ _ _ _ (by omega), List.foldl_cons, st_first (at_pc (by omega)) (by omega) (by omega) h2 (by omega), Nat.zero_add]
    rw [cut_fold (by omega) (by omega) (by omega) h2 _ _ (by omega) (by omega) (by omega) (by omega), sub_all]
  · rw [frags_eq h, foldA, dup_fold (by omega) (by omega) (by omega) h2 _ _ (by omega) (by omega), if_pos (by omega), sub_all]

theorem fold_only : ∀ (r : List Fg) (q p : List Pk), pcsOk q = true → (∀ x ∈ r, frG x) → r.foldl stA (some q) = some p → ∀ a, byteL p a ≠ none → byteL q a ≠ none ∨ ∃ x ∈ r, pcAt (pcF x) a ≠ none
  | [], q, p, _, _, h, a, hb => by
    simp only [List.foldl_nil, Option.some.injEq] at h
    rw [← h] at hb; exact .inl hb
  | x :: r, q, p, hq, hr, h, a, hb => by
    rw [List.foldl_cons] at h
    cases hs : stA (some q) x with
    | none =>
      rw [hs] at h
      have : ∀ r : List Fg, r.foldl stA none = none := by
        intro r
        induction r with
        | nil => rfl
        | cons y r ih => rw [List.foldl_cons]; exact ih
      rw [this] at h
      cases h
    | some q2 =>
      rw [hs] at h
      obtain ⟨ha, rfl⟩ := stA_some hs
      rcases fold_only r _ p (addOk_parts ha).2.2 (fun y hy => hr y (List.mem_cons_of_mem _ hy)) h a hb with h1 | ⟨y, hy, h1⟩
      · rw [(with_good q (pcF x) (PcsP.good (pcs_of hq)) (frG_ne (hr x (List.mem_cons_self ..)))).2 a] at h1
        cases hb2 : byteL q a with
        | some b => exact .inl (by simp)
        | none =>
          rw [hb2] at h1
          exact .inr ⟨x, List.mem_cons_self .., by simpa using h1⟩
      · exact .inr ⟨y, List.mem_cons_of_mem _ hy, h1⟩

theorem frags_miss {s : List UInt8} {z : Int} (h : frsP s z) {i : Nat} (hi : i < (fragsL s z).length) : whOk ((fragsL s z).take i ++ (fragsL s z).drop (i + 1)) = false := by
  refine (wh_no fun t ht => ?_).2
  have hf := fun x hx => frags_fr h (x := x) hx
  obtain ⟨h1, h2, h3, h4, h5, h6⟩ := id h
  obtain ⟨w1, w2, ⟨y, hy, hym⟩, w4, w5⟩ := ht
  have hin : ∀ x ∈ (fragsL s z).take i ++ (fragsL s z).drop (i + 1), ∃ k, ∃ hk : k < (fragsL s z).length, k ≠ i ∧ x = (fragsL s z)[k] := by
    intro x hx
    rcases List.mem_append.mp hx with hx | hx
    · obtain ⟨k, hk, rfl⟩ := List.getElem_of_mem hx
      rw [List.length_take] at hk
      exact ⟨k, by omega, by omega, by rw [List.getElem_take]⟩
    · obtain ⟨k, hk, rfl⟩ := List.getElem_of_mem hx
      rw [List.length_drop] at hk
      exact ⟨i + 1 + k, by omega, by omega, by rw [List.getElem_drop]⟩
  obtain ⟨j, hj, hji, rfl⟩ := hin y hy
  have hend := w4 _ hy hym
  rw [(hf _ (List.getElem_mem hj)).2 hym] at hend
  have hcl : (fragsL s z) = cutF s z.toNat (s.length + 1) 0 := frags_eq h
  have hati := (cut_at (s := s) (z := z.toNat) (s.length + 1) 0 i (by rw [← hcl]; exact hi)).2
  rw [Nat.zero_add] at hati
  have hb : byteL [((0 : Int), t)] ((i * z.toNat : Nat) : Int) ≠ none := by
    rw [one_at, if_pos (by omega), Int.toNat_natCast, List.getElem?_eq_getElem (by omega)]
    simp
  rcases fold_only _ [] _ pcs_nil w1 w5 _ hb with h7 | ⟨x, hx, h7⟩
  · simp [byteL] at h7
  · obtain ⟨k, hk, hki, rfl⟩ := hin x hx
    obtain ⟨e, hlt⟩ := cut_at (s := s) (z := z.toNat) (s.length + 1) 0 k (by rw [← hcl]; exact hk)
    have e2 : (fragsL s z)[k] = frAt s z.toNat (0 + k * z.toNat) := by
      rw [← e]; simp only [hcl]
    have h8 : (0 + k * z.toNat) % 8 = 0 := by
      have : z.toNat % 8 = 0 := by omega
      rw [Nat.zero_add, Nat.mul_mod, this]
      simp
    rw [e2, at_pc h8, sub_at] at h7
    rw [Nat.zero_add] at h7 hlt
    generalize hz : z.toNat = Z at *
    have hZ : 8 ≤ Z := by omega
    have hcov : k * Z ≤ i * Z ∧ i * Z < k * Z + Z := by
      by_cases hc : ((k * Z : Nat) : Int) ≤ ((i * Z : Nat) : Int) ∧ ((i * Z : Nat) : Int) < ((min (k * Z + Z) s.length : Nat) : Int)
      · omega
      · rw [if_neg hc] at h7
        simp at h7
    rcases Nat.lt_or_gt_of_ne hki with hlt2 | hgt
    · have : (k + 1) * Z ≤ i * Z := Nat.mul_le_mul_right Z hlt2
      rw [Nat.add_mul] at this
      omega
    · have : (i + 1) * Z ≤ k * Z := Nat.mul_le_mul_right Z hgt
      rw [Nat.add_mul] at this
      omega

end Go.Proofs.Ytaigdimicnlfdaa
