/- What fragments make: the program's. -/
import Derived.Test.YtaigdimicnlfdaaFrX
namespace Go.Proofs.Ytaigdimicnlfdaa
open Go.RowKit Go.Maps

def FaPost (w : World) (l : List Fg) (e : Ending) (w' : World) : Prop :=
  ((foldA l = none ∧ e = .returned (.tuple #[.slice none 0 0, .bool false])) ∨ ∃ p a c, foldA l = some p ∧ e = .returned (.tuple #[.slice a p.length c, .bool true]) ∧ PkAt w' a p) ∧ w.grownBy w' none
def FaRel (w : World) (L : List Fg) (s4 i : Value) (wr : World) : Prop :=
  ∃ (k : Nat) (p : List Pk) (a : Option Addr) (c : Nat), k ≤ L.length ∧ i = .int .i64 k ∧ s4 = .slice a p.length c ∧ foldA (L.take k) = some p ∧ RowOk wr a c p ∧ w.grownBy wr none

theorem frG_Q {x : Fg} (h : frG x) : frQ x := ⟨h.1, h.2.1, h.2.2.2.1⟩

set_option maxRecDepth 100000 in
set_option maxHeartbeats 1500000 in
theorem fadd_I (a : Option Addr) (c : Nat) (l : List Fg) (w : World) (h : FgAt w a l) (hl : l.length ≤ 200) (hq : ∀ x ∈ l, frG x) : Calls Try.prog 24 #[.slice a l.length c] w (FaPost w l) := by
  have H := Lib.hid h
  clear h
  have hqd : ∀ x ∈ dfL l, frG x := fun x hx => hq x (mem_df.mp hx)
  have hld := df_len l
  have HF := Lib.hid (foldA_diff hq)
  go_enter Try.func24, Try.ntmps24
  go_wp2_with fail
  refine (diff_I _ _ _ _ H.out (fun x hx => frG_Q (hq x hx)) hl).mono ?_
  rintro e w1 ⟨aD, cD, rfl, hg, ho⟩
  have H1 := Lib.hid (And.intro hg (fg_own ho))
  clear hg ho
  generalize dfL l = L at *
  go_wp2_with fail
  go_loopw [4, 6, 7, 8, 12] (fun s4 s6 s7 s8 i wr => FaRel w1 L s4 i wr) (fun _ _ _ _ i _ => L.length - (intOf i).toNat)
  case atStart => exact ⟨0, [], none, 0, Nat.zero_le _, rfl, rfl, rfl, row_own (World.ownsRow_nil w1 0 57 2), World.grownBy.refl _ _⟩
  case round =>
    obtain ⟨k, p, ap, cp, hk, rfl, rfl, hf, hr, hg⟩ := hrel
    have HS := Lib.hid (And.intro hf (And.intro hr hg))
    clear hf hr hg
    by_cases hlt : k < L.length
    · rcases H1.out.2.kept HS.out.2.2 with h0 | ⟨b, off, rfl, hbb, hc⟩
      · rw [h0] at hlt
        simp at hlt
      · obtain ⟨c0, c1, c2⟩ := hc k hlt
        have HQ := Lib.hid (hqd L[k] (List.getElem_mem hlt))
        have HN := Lib.hid (foldA_next L k hlt)
        clear hc hbb
        generalize L[k] = x at *
        have hlt' : (k : Int) < (L.length : Int) := by omega
        have hk0 : (0 : Int) ≤ (k : Int) := by omega
        have gA := Lib.hid (World.grownBy_alloc wr (.cells #[.int .i64 x.f, .bool x.m, .string ⟨x.d.toArray⟩] 30) none)
        go_wp2_with fail
        refine (piece_I x _ HQ.out).mono ?_
        rintro e w5 ⟨rfl, hg⟩
        have H5 := Lib.hid (grownBy_trans gA.out hg)
        clear hg
        go_wp2_with fail
        refine (add_impl _ _ _ _ _ _ (HS.out.2.1.kept H5.out)).mono ?_
        rintro e w6 ⟨v, rfl, hg, ho⟩
        have hE : stA (some p) x = if addOk p (8 * x.f, x.d) = true then some (withL p (8 * x.f, x.d)) else none := rfl
        have hR : addR p (8 * x.f, x.d) = if addOk p (8 * x.f, x.d) = true then withL p (8 * x.f, x.d) else [] := rfl
        have HG := Lib.hid (grownBy_trans HS.out.2.2 (grownBy_trans H5.out hg))
        clear hg
        cases hok : addOk p (8 * x.f, x.d)
        · rw [hok] at hE
          have HE := Lib.hid hE
          clear hok hE hR ho
          go_wp2_with fail
          go_ret2
          refine ⟨.inl ⟨?_, rfl⟩, grownBy_trans H1.out.1 HG.out⟩
          rw [← HF.out]
          refine foldA_none (j := k + 1) ?_
          rw [HN.out, HS.out.1, HE.out]
          rfl
        · rw [hok, if_pos rfl] at hE hR
          rw [hR] at ho
          have HE := Lib.hid hE
          clear hok hE hR
          generalize withL p (8 * x.f, x.d) = q at *
          obtain ⟨a6, c6, rfl⟩ := fown_slice ho
          have HO := Lib.hid (row_own ho)
          clear ho
          go_wp2_with fail
          go_roundw
          case rel => exact ⟨k + 1, q, a6, c6, hlt, by go_num, rfl, by rw [HN.out, HS.out.1]; exact HE.out, HO.out, HG.out⟩
          case measure => simp [intOf]; omega
    · obtain rfl : k = L.length := by omega
      rw [List.take_length] at HS
      go_wp2_with fail
      go_ret2
      exact ⟨.inr ⟨p, ap, cp, by rw [← HF.out]; exact HS.out.1, rfl, HS.out.2.1.at⟩, grownBy_trans H1.out.1 HS.out.2.2⟩

theorem wp_end {l : List Fg} {s : List UInt8} (h : WP l s) : 0 < (s.length : Int) ∧ EndTo l s.length := by
  obtain ⟨h1, _, ⟨x, hx, hm⟩, h3, _⟩ := h
  have := h3 x hx hm
  obtain ⟨g1, _, g3, _, _⟩ := h1 x hx
  have hp : 0 < (s.length : Int) := by unfold endX at this; omega
  exact ⟨hp, .inr ⟨hp, ⟨x, hx, hm⟩, h3⟩⟩

theorem end_same {l : List Fg} {a b : Int} (h : EndTo l a) (k : EndTo l b) (ha : 0 < a) (hb : 0 < b) : a = b := by
  rcases h with ⟨h1, _⟩ | ⟨_, ⟨x, hx, hm⟩, h3⟩
  · omega
  · rcases k with ⟨k1, _⟩ | ⟨_, _, k3⟩
    · omega
    · rw [← h3 x hx hm, k3 x hx hm]

/-- What the program looks at in the end. -/
theorem wp_iff {l : List Fg} {E : Int} {p : List Pk} (h1 : ∀ x ∈ l, frG x) (h2 : l.length ≤ 200) (hE : 0 < E) (he : EndTo l E) (hf : foldA l = some p) : (p.length = 1 ∧ ((prefL p).length : Int) = E → WP l (prefL p)) ∧ (¬ (p.length = 1 ∧ ((prefL p).length : Int) = E) → ∀ s, ¬ WP l s) := by
  have hok := foldA_ok h1 hf
  constructor
  · rintro ⟨g1, g2⟩
    obtain ⟨⟨a, s⟩, rfl⟩ := List.length_eq_one_iff.mp g1
    have hp := (pcs_of hok).2.1 (a, s) (List.mem_singleton.mpr rfl)
    have h0 := hp.1
    dsimp only at h0
    unfold prefL at g2 ⊢
    rw [hok, if_pos rfl] at g2 ⊢
    dsimp only at g2 ⊢
    by_cases ha : a ≤ 0
    · rw [if_pos ha] at g2 ⊢
      obtain rfl : a = 0 := by omega
      rcases he with ⟨e1, _⟩ | ⟨_, e2, e3⟩
      · omega
      · exact ⟨h1, h2, e2, fun x hx hm => by rw [e3 x hx hm, g2], hf⟩
    · rw [if_neg ha] at g2
      simp at g2
      omega
  · intro g s k
    refine g ?_
    have e := k.2.2.2.2
    rw [hf] at e
    simp only [Option.some.injEq] at e
    obtain ⟨k1, k2⟩ := wp_end k
    have hs := end_same he k2 hE k1
    rw [e] at hok
    rw [e]
    refine ⟨rfl, ?_⟩
    unfold prefL
    rw [hok, if_pos rfl]
    simp [hs]

set_option maxRecDepth 100000 in
set_option maxHeartbeats 1500000 in
theorem whole_I (a : Option Addr) (c : Nat) (l : List Fg) (w : World) (h : FgAt w a l) (hl : (l.length : Int) ≤ 9223372036854775807) (hd : ∀ x ∈ l, x.d.length ≤ 9223372036854775807) : Calls Try.prog 13 #[.slice a l.length c] w (WhPost w l) := by
  have H := Lib.hid h
  clear h
  go_enter Try.func13, Try.ntmps13
  go_wp2_with fail
  refine (all_I _ _ _ _ H.out hl hd).mono ?_
  rintro e w1 ⟨⟨b, rfl, hb⟩, hg⟩
  have H1 := Lib.hid hg
  clear hg
  cases b
  · have HB := Lib.hid hb
    clear hb
    go_wp2_with fail
    go_ret2
    exact wh_bad (fun s k => by have := HB.out.mpr ⟨k.2.1, k.1⟩; cases this) H1.out
  · obtain ⟨h200, hq⟩ := hb.mp rfl
    clear hb
    go_wp2_with fail
    refine (fend_I _ _ _ _ (H.out.kept H1.out) h200 hq).mono ?_
    rintro e w2 ⟨⟨E, b2, rfl, ht, hf⟩, hg⟩
    have H2 := Lib.hid (grownBy_trans H1.out hg)
    have HT := Lib.hid (And.intro ht hf)
    clear hg ht hf
    go_wp2_with fail
    refine (fadd_I _ _ _ _ (H.out.kept H2.out) h200 hq).mono ?_
    rintro e w3 ⟨hcase, hg⟩
    have H3 := Lib.hid (grownBy_trans H2.out hg)
    clear hg
    rcases hcase with ⟨hfn, rfl⟩ | ⟨p, ap, cp, hfs, rfl, hpk⟩
    · have HFN := Lib.hid hfn
      clear hfn
      go_wp2_with fail
      refine (pref_impl none 0 [] _ (.inl rfl)).mono ?_
      rintro e w4 ⟨rfl, hg⟩
      have H4 := Lib.hid (grownBy_trans H3.out hg)
      clear hg
      cases b2
      · go_wp2_with fail
        go_ret2
        exact wh_bad (fun s k => by have := k.2.2.2.2; rw [HFN.out] at this; cases this) H4.out
      · go_wp2_with fail
        go_ret2
        exact wh_bad (fun s k => by have := k.2.2.2.2; rw [HFN.out] at this; cases this) H4.out
    · have HFS := Lib.hid (And.intro hfs hpk)
      clear hfs hpk
      go_wp2_with fail
      refine (pref_impl _ _ _ _ HFS.out.2).mono ?_
      rintro e w4 ⟨rfl, hg⟩
      have H4 := Lib.hid (grownBy_trans H3.out hg)
      clear hg
      cases b2
      · go_wp2_with fail
        go_ret2
        exact wh_bad (fun s k => HT.out.2 trivial _ (wp_end k).1 (wp_end k).2) H4.out
      · have HW := Lib.hid (wp_iff hq h200 (HT.out.1 rfl).1 (HT.out.1 rfl).2 HFS.out.1)
        generalize prefL p = q at *
        by_cases g1 : p.length = 1
        · by_cases g2 : (q.length : Int) = E
          · have HY := Lib.hid (HW.out.1 ⟨g1, g2⟩)
            have e1 : ((p.length : Int) != 1) = false := by simp [g1]
            have e2 : ((p.length : Int) == 1) = true := by simp [g1]
            have e3 : ((q.length : Int) != E) = false := by simp [g2]
            have e4 : ((q.length : Int) == E) = true := by simp [g2]
            clear g1 g2
            go_wp2_with fail
            go_ret2
            exact wh_ret HY.out H4.out
          · have HY := Lib.hid (HW.out.2 (fun h => g2 h.2))
            have e1 : ((p.length : Int) != 1) = false := by simp [g1]
            have e2 : ((p.length : Int) == 1) = true := by simp [g1]
            have e3 : ((q.length : Int) != E) = true := by simp [g2]
            have e4 : ((q.length : Int) == E) = false := by simp [g2]
            clear g1 g2
            go_wp2_with fail
            go_ret2
            exact wh_bad HY.out H4.out
        · have HY := Lib.hid (HW.out.2 (fun h => g1 h.1))
          have e1 : ((p.length : Int) != 1) = true := by simp; omega
          have e2 : ((p.length : Int) == 1) = false := by simp; omega
          clear g1
          go_wp2_with fail
          go_ret2
          exact wh_bad HY.out H4.out

end Go.Proofs.Ytaigdimicnlfdaa
