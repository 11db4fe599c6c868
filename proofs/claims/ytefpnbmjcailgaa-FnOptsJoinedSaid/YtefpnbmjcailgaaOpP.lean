/- Options that are written come back when they are read; the drawing of a text of options. -/
import Derived.Test.YtefpnbmjcailgaaOpB
import Derived.Test.YtefpnbmjcailgaaHurO
namespace Go.Proofs.Ytefpnbmjcailgaa
open Go.RowKit

theorem optO_fuel : ∀ (f g : Nat) (L : List UInt8) (acc : List Pk), L.length < f → L.length < g → optO f L acc = optO g L acc
  | 0, _, _, _, h, _ => by omega
  | f + 1, 0, _, _, _, h => by omega
  | f + 1, g + 1, L, acc, hf, hg => by
    by_cases h0 : L = [] ∨ L.getD 0 0 = 0
    · rw [oo_end _ _ _ h0, oo_end _ _ _ h0]
    · have hp : 0 < L.length := List.length_pos_iff.mpr (fun e => h0 (.inl e))
      by_cases h1 : L.getD 0 0 = 1
      · rw [oo_fill _ _ _ h0 h1, oo_fill _ _ _ h0 h1]
        exact optO_fuel f g _ _ (by rw [List.length_drop]; omega) (by rw [List.length_drop]; omega)
      · by_cases hw : whole L
        · have h2 := hw.2.1
          rw [oo_more _ _ _ h0 h1 hw, oo_more _ _ _ h0 h1 hw]
          exact optO_fuel f g _ _ (by rw [List.length_drop]; omega) (by rw [List.length_drop]; omega)
        · rw [oo_bad _ _ _ h0 h1 hw, oo_bad _ _ _ h0 h1 hw]
theorem byte_ne {k : Int} {c : Nat} (h0 : 0 ≤ k) (h1 : k ≤ 255) (hc : c < 256) (hne : k ≠ (c : Int)) : UInt8.ofNat k.toNat ≠ UInt8.ofNat c := by
  intro e
  have := congrArg UInt8.toNat e
  simp at this
  omega
theorem one_more (x : Pk) (rest : List UInt8) (acc : List Pk) (f : Nat) (h : opP x) : optO (f + 1) (optB x ++ rest) acc = optO f rest (acc ++ [x]) := by
  obtain ⟨k, m⟩ := x
  obtain ⟨h0, h1, h2⟩ := h
  dsimp only at h0 h1 h2
  have e0 : (optB (k, m) ++ rest).getD 0 0 = UInt8.ofNat k.toNat := rfl
  have e1 : (optB (k, m) ++ rest).getD 1 0 = UInt8.ofNat (2 + m.length) := rfl
  have e2 : (UInt8.ofNat (2 + m.length)).toNat = 2 + m.length := by simp; omega
  have n0 : ¬ (optB (k, m) ++ rest = [] ∨ (optB (k, m) ++ rest).getD 0 0 = 0) := by
    rw [e0]
    rintro (h | h)
    · simp [optB] at h
    · exact byte_ne (c := 0) (by omega) h1 (by omega) (by omega) h
  have n1 : ¬ (optB (k, m) ++ rest).getD 0 0 = 1 := by
    rw [e0]
    exact byte_ne (c := 1) (by omega) h1 (by omega) (by omega)
  have hw : whole (optB (k, m) ++ rest) := by
    unfold whole
    rw [e1, e2, List.length_append, optB_len]
    dsimp only
    omega
  have hb : bodyL (optB (k, m) ++ rest) = m := by
    unfold bodyL
    rw [e1, e2]
    show ((m ++ rest).take (2 + m.length - 2)) = m
    rw [show 2 + m.length - 2 = m.length by omega, List.take_left]
  have hd : (optB (k, m) ++ rest).drop (2 + m.length) = rest := by
    have e : (optB (k, m)).length = 2 + m.length := optB_len (k, m)
    rw [← e, List.drop_left]
  rw [oo_more _ _ _ n0 n1 hw, e1, e2, hd, hb, e0]
  have ek : ((UInt8.ofNat k.toNat).toNat : Int) = k := by simp; omega
  rw [ek]
theorem all_more : ∀ (l : List Pk) (rest : List UInt8) (acc : List Pk) (f : Nat), (∀ x ∈ l, opP x) → optO (f + l.length) (optsT l ++ rest) acc = optO f rest (acc ++ l)
  | [], rest, acc, f, _ => by simp [optsT]
  | x :: l, rest, acc, f, h => by
    have e : optsT (x :: l) ++ rest = optB x ++ (optsT l ++ rest) := by simp [optsT]
    rw [e, List.length_cons, show f + (l.length + 1) = (f + l.length) + 1 by omega, one_more x _ _ _ (h x List.mem_cons_self), all_more l rest _ f (fun y hy => h y (List.mem_cons_of_mem _ hy))]
    simp
theorem pad_skip : ∀ (k : Nat) (rest : List UInt8) (acc : List Pk) (f : Nat), optO (f + k) (List.replicate k 1 ++ rest) acc = optO f rest acc
  | 0, rest, acc, f => by simp
  | k + 1, rest, acc, f => by
    have e : List.replicate (k + 1) (1 : UInt8) ++ rest = 1 :: (List.replicate k 1 ++ rest) := by simp [List.replicate_succ]
    rw [e, show f + (k + 1) = (f + k) + 1 by omega, oo_fill _ _ _ (by rintro (h | h) <;> simp at h) rfl]
    exact pad_skip k rest acc f
theorem pad_parts (l : List Pk) (h : opsP l) : optsL l = optsT l ++ List.replicate (fillN (szO l)) 1 ∧ (optsL l).length = szO l + fillN (szO l) := by
  have e : optsL l = optsT l ++ List.replicate (fillN (szO l)) 1 := by
    rw [optsL, if_pos h, pad4, optsT_len]
    rfl
  rw [e]
  exact ⟨rfl, by rw [List.length_append, optsT_len, List.length_replicate]⟩
theorem len_szO : ∀ l : List Pk, 2 * l.length ≤ szO l
  | [] => by simp [szO]
  | x :: l => by
    have := len_szO l
    rw [List.length_cons, szO]
    omega
/-- What is written of options, with other bytes behind it, is read on from there. -/
theorem read_on (l : List Pk) (h : opsP l) (rest : List UInt8) (acc : List Pk) (g : Nat) (hg : rest.length < g) : ∀ f, (optsL l ++ rest).length < f → optO f (optsL l ++ rest) acc = optO g rest (acc ++ l) := by
  intro f hf
  obtain ⟨e, hlen⟩ := pad_parts l h
  have h2 := len_szO l
  rw [optO_fuel f ((g + fillN (szO l) + szO l) + l.length) _ _ hf (by rw [List.length_append, hlen]; omega), e, List.append_assoc, all_more l _ _ _ h.2.1, show g + fillN (szO l) + szO l = (g + szO l) + fillN (szO l) by omega, pad_skip]
  exact optO_fuel _ _ _ _ (by omega) hg
theorem opts_le (l : List Pk) (h : opsP l) : (optsL l).length ≤ 40 ∧ (optsL l).length % 4 = 0 := by
  have e := (pad_parts l h).2
  have h3 := h.2.2
  rw [e]
  unfold fillN
  omega
theorem read_back (l : List Pk) (h : opsP l) : readO (optsL l) = (l, true) := by
  have h40 := (opts_le l h).1
  have e := read_on l h [] [] 1 (by simp) ((optsL l).length + 1) (by simp)
  rw [List.append_nil] at e
  rw [readO, if_neg (by omega), e]
  rfl
theorem read_both (l m : List Pk) (h : opsP l) (k : opsP m) : readO (optsL l ++ optsL m) = if (optsL l).length + (optsL m).length ≤ 40 then (l ++ m, true) else ([], false) := by
  by_cases hq : (optsL l).length + (optsL m).length ≤ 40
  · rw [if_pos hq, readO, if_neg (by rw [List.length_append]; omega)]
    have e1 := read_on l h (optsL m) [] ((optsL m).length + 1) (by omega) ((optsL l ++ optsL m).length + 1) (by omega)
    have e2 := read_on m k [] ([] ++ l) 1 (by simp) ((optsL m).length + 1) (by simp)
    rw [List.append_nil] at e2
    rw [e1, e2]
    rfl
  · rw [if_neg hq, readO, if_pos (by rw [List.length_append]; omega)]
theorem szO_rev : ∀ l : List Pk, szO l.reverse = szO l
  | [] => rfl
  | x :: l => by
    rw [List.reverse_cons, szO_app, szO_rev l, szO, szO, szO]
    omega
theorem ops_rev {l : List Pk} (h : opsP l) : opsP l.reverse := ⟨by rw [List.length_reverse]; exact h.1, fun x hx => h.2.1 x (List.mem_reverse.1 hx), by rw [szO_rev]; exact h.2.2⟩
/-- The first one of a kind is told. -/
theorem find_mem (k : Int) : ∀ l : List Pk, (∃ x ∈ l, x.1 = k) → (findF k l).2 = true
  | [], h => by obtain ⟨x, hx, _⟩ := h; simp at hx
  | y :: l, h => by
    unfold findF
    split
    · rfl
    · rename_i hne
      refine find_mem k l ?_
      obtain ⟨x, hx, e⟩ := h
      rcases List.mem_cons.1 hx with rfl | hx
      · exact absurd e hne
      · exact ⟨x, hx, e⟩
theorem oof_mem {l : List Pk} {j : Nat} (h : opsP l) (hj : j < l.length) : (oofF l (l[j]).1).2 = true := by
  rw [oofF, if_pos (ops_yes h)]
  exact find_mem _ _ ⟨l[j], List.getElem_mem hj, rfl⟩
theorem oof_first {l : List Pk} (h : opsP l) (hj : 0 < l.length) : oofF l (l[0]).1 = ((l[0]).2, true) := by
  rw [oofF, if_pos (ops_yes h)]
  exact findF_here hj (by simp) rfl
theorem od_small {l : List Pk} (_hl : l.length ≤ 3) (h : ∀ x ∈ l, odP x) : ∀ x ∈ l, (x.2.length : Int) ≤ 9223372036854775807 := fun x hx => by have := (h x hx).2; omega

def DrPost (w : World) (e : Ending) (w' : World) : Prop := ∃ t : List UInt8, t.length ≤ 100 ∧ e = .returned (.string ⟨t.toArray⟩) ∧ w.grownBy w' none
theorem optsL_le (l : List Pk) : (optsL l).length ≤ 40 := by
  by_cases h : opsP l
  · exact (opts_le l h).1
  · rw [optsL, if_neg h]; simp

set_option maxRecDepth 100000 in
theorem draw_read (a : Option Addr) (n c : Nat) (w : World) (h : CodeIn w a n) : Calls Try.prog 18 #[.slice a n c] w (DrPost w) := by
  have H := Lib.hid h
  clear h
  go_enter Try.func18, Try.ntmps18
  go_wp2_with fail
  refine (open_any _ _ _ _ H.out).mono ?_
  rintro e w1 ⟨rfl, hg, hr⟩
  have HG := Lib.hid (And.intro hg hr)
  have hlr := hr.lt
  clear hg hr
  go_wp2_with fail
  refine (opts_draw _ _ HG.out.2).mono ?_
  rintro e w2 ⟨l, la, lc, hl, hall, rfl, hod⟩
  have HO := Lib.hid (And.intro hod hall)
  clear hod hall
  go_wp2_with fail
  refine (ob_spec _ _ _ _ (pk_own HO.out.1.ow) (by omega) (od_small hl HO.out.2)).mono ?_
  rintro e w3 ⟨rfl, hg⟩
  have H3 := Lib.hid (HO.out.1.step hlr (gE hg) (HO.out.1.rd.kept hg (by simp) (by simp)))
  have hle := optsL_le l
  generalize optsL l = s at *
  clear hg
  go_wp2_with fail
  refine (once_any _ _ _ H3.out.rd (by omega) (by omega)).mono ?_
  rintro e w4 ⟨b, rfl, hg, hr⟩
  have H4 := Lib.hid (H3.out.step hlr hg hr)
  clear hg hr
  have hb1 : ¬ 9223372036854775807 < 1 + s.length := by omega
  cases b
  · go_wp2_with fail
    refine (hurt_any _ s _ H4.out.rd (by omega)).mono ?_
    rintro e w5 ⟨t, ht, rfl, hg, hr⟩
    have H5 := Lib.hid (H4.out.step hlr hg hr)
    clear hg hr
    go_wp2_with fail
    go_ret
    exact ⟨t, by omega, rfl, grownBy_new HG.out.1 H5.out.g (Nat.le_refl _)⟩
  · go_wp2_with fail
    go_ret
    exact ⟨1 :: s, by simp; omega, ret_ba (show ((⟨[1].toArray⟩ : ByteArray) ++ ⟨s.toArray⟩) = _ by rw [ba_append]; rfl), grownBy_new HG.out.1 H4.out.g (Nat.le_refl _)⟩

theorem wpList_append_ownG {P : Program} {w : World} {ops : Array Oper} {rest : List Oper} {o : Oper} {a : Act} {Q : Exit → Act → World → Prop} (hgd : Region.wanted o (yielded ops a.tmps) = true) (s x : Operand) (t : TypeId)
    (ho : o.op = .call { callee := .builtin .append, args := #[s, x], argTypes := #[t, t] })
    (base : Nat) (e : TypeId) (i : TypeInfo) (z : Value) (size bytes : Nat) (ht : P.underlying t = some (.slice e)) (hi : P.info? e = some i) (hz : i.zero = some z)
    (hsize : i.size = size) (hby : i.bytes = bytes) (hzs : z.cells.size = size) (hsz : 0 < size)
    (v : Value) (n : Nat) (xs : List Value) (hs : a.eval s = v) (hown : w.ownsRow base e size v n xs)
    (ad : Addr) (m c : Nat) (news : List Value) (hx : a.eval x = .slice (some ad) m c) (hl : news.length = m * size) (hnews : ∀ j u, news[j]? = some u → w.cell? (ad.add j) = some u) (h1 : ∀ u ∈ news, u.oneCell' = true)
    (h63 : n + m ≤ maxLen) (hbytes : (n + m) * bytes ≤ 140737488355328) (hbase : base ≤ w.heap.size)
    (h : ∀ v' w', w'.ownsRow base e size v' (n + m) (xs ++ news) → w.grownBy w' v.ownBlock → (v' = .slice none 0 0 ↔ v = .slice none 0 0 ∧ m = 0) → wpList P ops Q rest (a.put o.dst v') w') : wpList P ops Q (o :: rest) a w :=
  wpList_step fun K hK => by rw [if_pos hgd]; exact wp_append_own w s x t ho base e i z size bytes ht hi hz hsize hby hzs hsz v n xs hs hown ad m c news hx hl hnews h1 h63 hbytes hbase fun v' w' h2 h3 h4 => hK _ _ (h v' w' h2 h3 h4)
theorem wpList_append_noneG {P : Program} {w : World} {ops : Array Oper} {rest : List Oper} {o : Oper} {a : Act} {Q : Exit → Act → World → Prop} (hgd : Region.wanted o (yielded ops a.tmps) = true) (s x : Operand) (t : TypeId)
    (ho : o.op = .call { callee := .builtin .append, args := #[s, x], argTypes := #[t, t] })
    (base : Nat) (e : TypeId) (i : TypeInfo) (size : Nat) (ht : P.underlying t = some (.slice e)) (hi : P.info? e = some i)
    (v : Value) (n : Nat) (xs : List Value) (hs : a.eval s = v) (hown : w.ownsRow base e size v n xs) (hx : a.eval x = .slice none 0 0)
    (h : wpList P ops Q rest (a.put o.dst v) w) : wpList P ops Q (o :: rest) a w := by
  refine wpList_step fun K hK => ?_
  rw [if_pos hgd]
  have hrun := run_append_owned_none (P := P) (w := w) base t o.type e i size ht hi v n xs hown
  unfold Oper.wp
  simp [execOp, ho, resolve, invoke, builtin, hs, hx, hrun, Result.andThen]
  exact hK _ _ h
theorem pk_cells {w : World} {ad : Addr} {l : List Pk} (h : PkAt w (some ad) l) : ∀ j u, (pksV l)[j]? = some u → w.cell? (ad.add j) = some u := by
  intro j u hj
  rcases h with h | ⟨b, off, e, hb, hc⟩
  · rw [h] at hj
    simp [pksV] at hj
  · simp only [Option.some.injEq] at e
    subst e
    have hlen := pksV_len l
    have hjl : j < (pksV l).length := (List.getElem?_eq_some_iff.1 hj).1
    have hi : j / 2 < l.length := by omega
    obtain ⟨c0, c1⟩ := hc (j / 2) hi
    obtain ⟨g0, g1⟩ := pksV_get l (j / 2) hi
    have ha : (⟨b, off, none⟩ : Addr).add j = ⟨b, off + j, none⟩ := by
      by_cases e : j = 0
      · subst e; simp [Addr.add]
      · simp [Addr.add, e]
    rw [ha]
    rcases Nat.mod_two_eq_zero_or_one j with hm | hm
    · have ej : j = j / 2 * 2 := by omega
      rw [ej] at hj ⊢
      rw [g0] at hj
      rw [← Option.some.inj hj]
      have e2 : j / 2 * 2 / 2 = j / 2 := by omega
      exact c0
    · have ej : j = j / 2 * 2 + 1 := by omega
      rw [ej] at hj ⊢
      rw [g1] at hj
      rw [← Option.some.inj hj, ← Nat.add_assoc]
      exact c1
theorem pks_one (l : List Pk) : ∀ u ∈ pksV l, u.oneCell' = true := by
  intro u hu
  simp only [pksV, List.mem_flatMap] at hu
  obtain ⟨x, _, hu⟩ := hu
  simp only [pkV, List.mem_cons, List.not_mem_nil, or_false] at hu
  rcases hu with rfl | rfl <;> rfl
theorem pk_join {w : World} {base c : Nat} {e : TypeId} {a : Option Addr} {l r : List Pk} {n : Nat} (hn : r.length = n) (h : w.ownsRow base e 2 (.slice a (l.length + n) c) (l.length + n) (pksV l ++ pksV r)) : PkAt w a (l ++ r) := by
  subst hn
  have e1 : pksV (l ++ r) = pksV l ++ pksV r := by simp [pksV]
  rw [← e1, ← List.length_append] at h
  exact pk_own h
def JnRel (w : World) (l : List Pk) (v i : Value) (wr : World) : Prop :=
  ∃ k : Nat, k ≤ l.length ∧ i = .int .i64 ((l.length : Int) - 1 - (k : Int)) ∧ w.grownBy wr none ∧ wr.ownsRow w.heap.size 43 2 v k (pksV (l.reverse.take k)) ∧ v ≠ .slice none 0 0
theorem rev_next (l : List Pk) (k : Nat) (h : k < l.length) : l.reverse.take (k + 1) = l.reverse.take k ++ [l[l.length - 1 - k]'(by omega)] := by
  rw [List.take_succ_eq_append_getElem (by rw [List.length_reverse]; exact h), List.getElem_reverse]

end Go.Proofs.Ytefpnbmjcailgaa
