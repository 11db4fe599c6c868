/- What fragments make: the model's. -/
import Derived.Test.YtjgmkjbeagcgfaaFrY
import Derived.Test.YtjgmkjbeagcgfaaPcAdS
import Derived.Deep.DeepCutAuto
namespace Go.Proofs.Ytjgmkjbeagcgfaa
open Go.RowKit Go.Maps

theorem gen_v {K : World → Prop} {P : World → Prop} {W : World} (h : P W) (f : ∀ V, P V → K V) : K W := f W h

def EndM (l : List Fg) (e : Int) : Prop := (e = -1 ∧ ∀ x ∈ l, x.m = true) ∨ (0 < e ∧ (∃ x ∈ l, x.m = false) ∧ ∀ x ∈ l, x.m = false → endX x = e)

theorem endm_skip {l : List Fg} {k : Nat} {e : Int} (h : EndM (l.take k) e) (hk : k < l.length) (hm : (l[k]).m = true) : EndM (l.take (k + 1)) e := by
  rcases h with ⟨h1, h2⟩ | ⟨h1, ⟨x, hx, hxm⟩, h2⟩
  · exact .inl ⟨h1, take_all h2 hk hm⟩
  · refine .inr ⟨h1, ⟨x, ?_, hxm⟩, take_all h2 hk (fun hf => by rw [hm] at hf; cases hf)⟩
    rw [List.take_succ_eq_append_getElem hk]
    exact List.mem_append.mpr (.inl hx)

theorem endm_put {l : List Fg} {k : Nat} {e : Int} (h : EndM (l.take k) e) (hk : k < l.length) (hm : (l[k]).m = false) (hp : 0 < endX l[k]) (he : e < 0 ∨ e = endX l[k]) : EndM (l.take (k + 1)) (endX l[k]) := by
  have hmem : l[k] ∈ l.take (k + 1) := by
    rw [List.take_succ_eq_append_getElem hk]
    exact List.mem_append.mpr (.inr (List.mem_singleton.mpr rfl))
  refine .inr ⟨hp, ⟨_, hmem, hm⟩, take_all ?_ hk (fun _ => rfl)⟩
  rcases h with ⟨h1, h2⟩ | ⟨h1, _, h2⟩
  · intro x hx hxm
    rw [h2 x hx] at hxm
    cases hxm
  · rcases he with he | he
    · omega
    · rw [← he]; exact h2

theorem endm_bad {l : List Fg} {k : Nat} {e : Int} (h : EndM (l.take k) e) (hk : k < l.length) (hm : (l[k]).m = false) (h0 : 0 ≤ e) (he : e ≠ endX l[k]) : ∀ s, ¬ WP l s := by
  intro s w
  rcases h with ⟨h1, _⟩ | ⟨_, ⟨x, hx, hxm⟩, h3⟩
  · omega
  · have a1 := w.2.2.2.1 x (List.mem_of_mem_take hx) hxm
    have a2 := h3 x hx hxm
    have a3 := w.2.2.2.1 l[k] (List.getElem_mem hk) hm
    omega

def WsRel (w : World) (l : List Fg) (s4 s5 s6 : Value) (wr : World) : Prop :=
  ∃ (k : Nat) (p : List Pk) (a : Option Addr) (c : Nat) (E : Int), k ≤ l.length ∧ s6 = .int .i64 k ∧ s4 = .slice a p.length c ∧ s5 = .int .i64 E ∧ (∀ x ∈ l.take k, frG x) ∧ (k = 0 ∨ l.length ≤ 200) ∧ EndM (l.take k) E ∧ foldA (l.take k) = some p ∧ PkAt wr a p ∧ p.length ≤ 1000 ∧ w.grownBy wr none

theorem ws_end {l : List Fg} {E : Int} {p : List Pk} (h1 : ∀ x ∈ l, frG x) (h2 : l = [] ∨ l.length ≤ 200) (he : EndM l E) (hf : foldA l = some p) : (∀ s, 0 ≤ E → p = [(0, s)] → (s.length : Int) = E → WP l s) ∧ (∀ s, WP l s → 0 ≤ E ∧ p = [(0, s)] ∧ (s.length : Int) = E) := by
  constructor
  · intro s h0 hp hs
    rcases he with ⟨e1, _⟩ | ⟨_, e2, e3⟩
    · omega
    · refine ⟨h1, ?_, e2, fun x hx hm => by rw [e3 x hx hm, hs], by rw [hf, hp]⟩
      rcases h2 with rfl | h2
      · simp
      · exact h2
  · intro s k
    have e := k.2.2.2.2
    rw [hf] at e
    simp only [Option.some.injEq] at e
    obtain ⟨x, hx, hm⟩ := k.2.2.1
    have hs := k.2.2.2.1 x hx hm
    rcases he with ⟨_, e2⟩ | ⟨e1, _, e3⟩
    · rw [e2 x hx] at hm; cases hm
    · exact ⟨by omega, e, by rw [← hs, e3 x hx hm]⟩

set_option maxRecDepth 100000 in
set_option maxHeartbeats 2000000 in
theorem whole_S (a : Option Addr) (c : Nat) (l : List Fg) (w : World) (h : FgAt w a l) (hl : (l.length : Int) ≤ 9223372036854775806) (hd : ∀ x ∈ l, x.d.length ≤ 9223372036854775807) : Calls Try.prog 19 #[.slice a l.length c] w (WhPost w l) := by
  have H := Lib.hid h
  have H0 := Lib.hid (World.grownBy_alloc w (.cells #[] 55) none)
  clear h
  go_enter Try.func19, Try.ntmps19
  go_wp2_with fail
  go_loopw [4, 5, 6, 7, 8, 9] (fun s4 s5 s6 s7 s8 s9 wr => WsRel w l s4 s5 s6 wr) (fun _ _ i _ _ _ _ => l.length - (intOf i).toNat)
  case atStart => exact ⟨0, [], _, 0, -1, Nat.zero_le _, rfl, rfl, rfl, by simp, .inl rfl, .inl ⟨rfl, by simp⟩, rfl, .inl rfl, by simp, H0.out⟩
  case round =>
    clear H0
    obtain ⟨k, p, ap, cp, E, hk, rfl, rfl, rfl, hr, h2, he, hf, hpk, hpl, hg⟩ := hrel
    have HS := Lib.hid (And.intro hr (And.intro he (And.intro hf (And.intro hpk hg))))
    clear hr he hf hpk hg
    by_cases hlt : k < l.length
    · rcases H.out.kept HS.out.2.2.2.2 with h0 | ⟨b, off, rfl, hbb, hc⟩
      · rw [h0] at hlt
        simp at hlt
      · obtain ⟨c0, c1, c2⟩ := hc k hlt
        have HT := Lib.hid (take_all (P := frG) HS.out.1 hlt)
        have HN := Lib.hid (foldA_next l k hlt)
        have HM := Lib.hid (List.getElem_mem hlt)
        have hdx := hd l[k] (List.getElem_mem hlt)
        have HE1 := Lib.hid (endm_skip HS.out.2.1 hlt)
        have HE2 := Lib.hid (endm_put HS.out.2.1 hlt)
        have HE3 := Lib.hid (endm_bad HS.out.2.1 hlt)
        clear hc hbb
        generalize l[k] = x at *
        obtain ⟨f, m, d⟩ := x
        have hlt' : (k : Int) < (l.length : Int) := by omega
        have hk0 : (0 : Int) ≤ (k : Int) := by omega
        dsimp only at c0 c1 c2 hdx
        go_wp2_with fail
        refine (fr_S _ _ _ _ hdx).mono ?_
        rintro e w5 ⟨rfl, hg⟩
        have H5 := Lib.hid (And.intro hg (grownBy_trans HS.out.2.2.2.2 hg))
        have d0 := hg.cell c0 (by simp)
        have d1 := hg.cell c1 (by simp)
        have d2 := hg.cell c2 (by simp)
        clear hg c0 c1 c2
        by_cases hfr : frP f m d
        · rw [decide_eq_true hfr]
          by_cases h200 : 200 < l.length
          · have h201 : (200 : Int) < (l.length : Int) := by omega
            have HF := Lib.hid hfr
            clear hfr
            go_wp2_with fail
            go_ret2
            exact wh_bad (fun s q => by have := q.2.1; omega) H5.out.2
          · have h201 : ¬ (200 : Int) < (l.length : Int) := by omega
            have HF := Lib.hid (show frG (⟨f, m, d⟩ : Fg) from hfr)
            obtain ⟨b1, b2, b3, b4, _⟩ := hfr
            have hw1 : IntKind.i64.wrap (8 * f) = 8 * f := IntWalk.i64_in _ (by omega)
            have hw2 : IntKind.i64.wrap (8 * f + (d.length : Int)) = 8 * f + (d.length : Int) := IntWalk.i64_in _ (by omega)
            have hq0 : 0 < 8 * f + (d.length : Int) := by omega
            have HQ := Lib.hid (show endX (⟨f, m, d⟩ : Fg) = 8 * f + (d.length : Int) from rfl)
            go_wp2_with fail
            go_quiet (fail)
            refine gen_v (P := fun V => w5.grownBy V none) (grownBy_drewN _) (fun wd hwd => ?_)
            have c0 := hwd.cell d0 (by simp)
            have c1 := hwd.cell d1 (by simp)
            have c2 := hwd.cell d2 (by simp)
            have HG := Lib.hid (grownBy_trans H5.out.2 hwd)
            have HP := Lib.hid (HS.out.2.2.2.1.kept (grownBy_trans H5.out.1 hwd))
            have HPL : p.length ≤ 9223372036854775807 := by omega
            clear hwd d0 d1 d2
            cases m
            · by_cases hE : E < 0
              · have HX := Lib.hid (HE2.out rfl (by rw [HQ.out]; exact hq0) (.inl hE))
                have hE2 : ¬ 0 ≤ E := by omega
                have hE3 : decide (0 ≤ E) = false := decide_eq_false hE2
                go_upto_region 13 with fail
                refine wp_region_held_drew (S := fun w' => w'.cell? ⟨b, off + k * 3, none⟩ = some (.int .i64 f) ∧ w'.cell? ⟨b, off + k * 3 + 2, none⟩ = some (.string ⟨d.toArray⟩) ∧ wd.grownBy w' none) (by kernel_rfl) (⟨by first | assumption | (go_simp; done) | (simp [*]; done), by first | assumption | (go_simp; done) | (simp [*]; done), grownBy_trans (World.grownBy.refl _ _) grownBy_drew⟩) (fun hS => ?_)
                refine wpAnyH_take (i := 0) (v := ?_) rfl (by kernel_rfl) (by kernel_rfl) (by kernel_rfl) (fun _ _ _ h => h) (Or.inl ⟨by kernel_rfl, ?_⟩) hS ?_
                rotate_left
                · intro w' hSw
                  obtain ⟨g0, g1, _⟩ := hSw
                  first | (go_simp; done) | (go_simp; with_reducible rfl)
                simp only [List.getElem_toArray, List.getElem_cons_zero, Act.put, List.setIfInBounds_toArray, List.set_cons_zero, List.set_cons_succ]
                refine wpAnyH_take (i := 1) (v := ?_) rfl (by kernel_rfl) (by kernel_rfl) (by kernel_rfl) (fun _ _ _ h => h) (Or.inl ⟨by kernel_rfl, ?_⟩) hS ?_
                rotate_left
                · intro w' hSw
                  obtain ⟨g0, g1, _⟩ := hSw
                  first | (go_simp; done) | (go_simp; with_reducible rfl)
                simp only [List.getElem_toArray, List.getElem_cons_zero, List.getElem_cons_succ, Act.put, List.setIfInBounds_toArray, List.set_cons_zero, List.set_cons_succ]
                refine wpAnyH_take (i := 2) (v := ?_) rfl (by kernel_rfl) (by kernel_rfl) (by kernel_rfl) (fun _ _ _ h => h) (Or.inl ⟨by kernel_rfl, ?_⟩) hS ?_
                rotate_left
                · intro w' hSw
                  obtain ⟨g0, g1, _⟩ := hSw
                  first | (go_simp; done) | (go_simp; with_reducible rfl)
                simp only [List.getElem_toArray, List.getElem_cons_zero, List.getElem_cons_succ, Act.put, List.setIfInBounds_toArray, List.set_cons_zero, List.set_cons_succ]
                refine wpAnyH_take (i := 3) (v := ?_) rfl (by kernel_rfl) (by kernel_rfl) (by kernel_rfl) (fun _ _ _ h => h) (Or.inl ⟨by kernel_rfl, ?_⟩) hS ?_
                rotate_left
                · intro w' hSw
                  obtain ⟨g0, g1, _⟩ := hSw
                  first | (go_simp; done) | (go_simp; with_reducible rfl)
                simp only [List.getElem_toArray, List.getElem_cons_zero, List.getElem_cons_succ, Act.put, List.setIfInBounds_toArray, List.set_cons_zero, List.set_cons_succ]
                refine wpAnyH_take (i := 4) (v := ?_) rfl (by kernel_rfl) (by kernel_rfl) (by kernel_rfl) (fun _ _ _ h => h) (Or.inl ⟨by kernel_rfl, ?_⟩) hS ?_
                rotate_left
                · intro w' hSw
                  obtain ⟨g0, g1, _⟩ := hSw
                  first | (go_simp; done) | (go_simp; with_reducible rfl)
                simp only [List.getElem_toArray, List.getElem_cons_zero, List.getElem_cons_succ, Act.put, List.setIfInBounds_toArray, List.set_cons_zero, List.set_cons_succ]
                refine wpAnyH_take (i := 5) (v := ?_) rfl (by kernel_rfl) (by kernel_rfl) (by kernel_rfl) (fun _ _ _ h => h) (Or.inl ⟨by kernel_rfl, ?_⟩) hS ?_
                rotate_left
                · intro w' hSw
                  obtain ⟨g0, g1, _⟩ := hSw
                  first | (go_simp; done) | (go_simp; with_reducible rfl)
                simp only [List.getElem_toArray, List.getElem_cons_zero, List.getElem_cons_succ, Act.put, List.setIfInBounds_toArray, List.set_cons_zero, List.set_cons_succ]
                refine wpAnyH_take (i := 6) (v := ?_) rfl (by kernel_rfl) (by kernel_rfl) (by kernel_rfl) (fun _ _ _ h => h) (Or.inl ⟨by kernel_rfl, ?_⟩) hS ?_
                rotate_left
                · intro w' hSw
                  obtain ⟨g0, g1, _⟩ := hSw
                  first | (go_simp; done) | (go_simp; with_reducible rfl)
                simp only [List.getElem_toArray, List.getElem_cons_zero, List.getElem_cons_succ, Act.put, List.setIfInBounds_toArray, List.set_cons_zero, List.set_cons_succ]
                refine wpAnyH_take (i := 7) (v := ?_) rfl (by kernel_rfl) (by kernel_rfl) (by kernel_rfl) (fun _ _ _ h => h) (Or.inl ⟨by kernel_rfl, ?_⟩) hS ?_
                rotate_left
                · intro w' hSw
                  obtain ⟨g0, g1, _⟩ := hSw
                  first | (go_simp; done) | (go_simp; with_reducible rfl)
                simp only [List.getElem_toArray, List.getElem_cons_zero, List.getElem_cons_succ, Act.put, List.setIfInBounds_toArray, List.set_cons_zero, List.set_cons_succ]
                refine wpAnyH_take (i := 8) (v := ?_) rfl (by kernel_rfl) (by kernel_rfl) (by kernel_rfl) (fun _ _ _ h => h) (Or.inl ⟨by kernel_rfl, ?_⟩) hS ?_
                rotate_left
                · intro w' hSw
                  obtain ⟨g0, g1, _⟩ := hSw
                  first | (go_simp; done) | (go_simp; with_reducible rfl)
                simp only [List.getElem_toArray, List.getElem_cons_zero, List.getElem_cons_succ, Act.put, List.setIfInBounds_toArray, List.set_cons_zero, List.set_cons_succ]
                refine wpAnyH_take (i := 9) (v := ?_) rfl (by kernel_rfl) (by kernel_rfl) (by kernel_rfl) (fun _ _ _ h => h) (Or.inl ⟨by kernel_rfl, ?_⟩) hS ?_
                rotate_left
                · intro w' hSw
                  obtain ⟨g0, g1, _⟩ := hSw
                  first | (go_simp; done) | (go_simp; with_reducible rfl)
                simp only [List.getElem_toArray, List.getElem_cons_zero, List.getElem_cons_succ, Act.put, List.setIfInBounds_toArray, List.set_cons_zero, List.set_cons_succ]
                refine wpAnyH_take (i := 10) (v := ?_) rfl (by kernel_rfl) (by kernel_rfl) (by kernel_rfl) (fun _ _ _ h => h) (Or.inl ⟨by kernel_rfl, ?_⟩) hS ?_
                rotate_left
                · intro w' hSw
                  obtain ⟨g0, g1, _⟩ := hSw
                  first | (go_simp; done) | (go_simp; with_reducible rfl)
                simp only [List.getElem_toArray, List.getElem_cons_zero, List.getElem_cons_succ, Act.put, List.setIfInBounds_toArray, List.set_cons_zero, List.set_cons_succ]
                refine wpAnyH_take (i := 11) (v := ?_) rfl (by kernel_rfl) (by kernel_rfl) (by kernel_rfl) (fun _ _ _ h => h) (Or.inl ⟨by kernel_rfl, ?_⟩) hS ?_
                rotate_left
                · intro w' hSw
                  obtain ⟨g0, g1, _⟩ := hSw
                  first | (go_simp; done) | (go_simp; with_reducible rfl)
                simp only [List.getElem_toArray, List.getElem_cons_zero, List.getElem_cons_succ, Act.put, List.setIfInBounds_toArray, List.set_cons_zero, List.set_cons_succ]
                refine wpAnyH_take (i := 12) (v := ?_) rfl (by kernel_rfl) (by kernel_rfl) (by kernel_rfl) (fun _ _ _ h => h) (Or.inl ⟨by kernel_rfl, ?_⟩) hS ?_
                rotate_left
                · intro w' hSw
                  obtain ⟨g0, g1, _⟩ := hSw
                  first | (go_simp; done) | (go_simp; with_reducible rfl)
                simp only [List.getElem_toArray, List.getElem_cons_zero, List.getElem_cons_succ, Act.put, List.setIfInBounds_toArray, List.set_cons_zero, List.set_cons_succ]
                refine wpAnyH_ready (rs := [13]) (by kernel_rfl) (List.cons_ne_nil _ _) ?_
                refine AllReadyH.cons rfl (fun K hK => ?_) AllReadyH.nil
                go_simp
                go_at_call 31
                refine (add_spec _ _ _ _ _ _ (HP.out.kept (hS.2.2)) HPL).mono ?_
                rintro e w8 ⟨v, rfl, hg, ho⟩
                have HO := Lib.hid ho
                clear ho
                refine hK.out _ _ (⟨hg.cell (hS.1) (by simp), hg.cell (hS.2.1) (by simp), grownBy_trans (hS.2.2) hg⟩) (fun hS => ?_)
                clear hK
                try simp only [List.getElem_toArray, List.getElem_cons_zero, List.getElem_cons_succ, Act.put, List.setIfInBounds_toArray, List.set_cons_zero, List.set_cons_succ]
                refine wpAnyH_take (i := 14) (v := ?_) rfl (by kernel_rfl) (by kernel_rfl) (by kernel_rfl) (fun _ _ _ h => h) (Or.inl ⟨by kernel_rfl, ?_⟩) hS ?_
                rotate_left
                · intro w' hSw
                  obtain ⟨g0, g1, _⟩ := hSw
                  first | (go_simp; done) | (go_simp; with_reducible rfl)
                simp only [List.getElem_toArray, List.getElem_cons_zero, List.getElem_cons_succ, Act.put, List.setIfInBounds_toArray, List.set_cons_zero, List.set_cons_succ]
                refine wpAnyH_take (i := 15) (v := ?_) rfl (by kernel_rfl) (by kernel_rfl) (by kernel_rfl) (fun _ _ _ h => h) (Or.inl ⟨by kernel_rfl, ?_⟩) hS ?_
                rotate_left
                · intro w' hSw
                  obtain ⟨g0, g1, _⟩ := hSw
                  first | (go_simp; done) | (go_simp; with_reducible rfl)
                simp only [List.getElem_toArray, List.getElem_cons_zero, List.getElem_cons_succ, Act.put, List.setIfInBounds_toArray, List.set_cons_zero, List.set_cons_succ]
                refine wpAnyH_take (i := 16) (v := ?_) rfl (by kernel_rfl) (by kernel_rfl) (by kernel_rfl) (fun _ _ _ h => h) (Or.inl ⟨by kernel_rfl, ?_⟩) hS ?_
                rotate_left
                · intro w' hSw
                  obtain ⟨g0, g1, _⟩ := hSw
                  first | (go_simp; done) | (go_simp; with_reducible rfl)
                simp only [List.getElem_toArray, List.getElem_cons_zero, List.getElem_cons_succ, Act.put, List.setIfInBounds_toArray, List.set_cons_zero, List.set_cons_succ]
                refine wpAnyH_take (i := 17) (v := ?_) rfl (by kernel_rfl) (by kernel_rfl) (by kernel_rfl) (fun _ _ _ h => h) (Or.inl ⟨by kernel_rfl, ?_⟩) hS ?_
                rotate_left
                · intro w' hSw
                  obtain ⟨g0, g1, _⟩ := hSw
                  first | (go_simp; done) | (go_simp; with_reducible rfl)
                simp only [List.getElem_toArray, List.getElem_cons_zero, List.getElem_cons_succ, Act.put, List.setIfInBounds_toArray, List.set_cons_zero, List.set_cons_succ]
                refine wpAnyH_take (i := 18) (v := ?_) rfl (by kernel_rfl) (by kernel_rfl) (by kernel_rfl) (fun _ _ _ h => h) (Or.inl ⟨by kernel_rfl, ?_⟩) hS ?_
                rotate_left
                · intro w' hSw
                  obtain ⟨g0, g1, _⟩ := hSw
                  first | (go_simp; done) | (go_simp; with_reducible rfl)
                simp only [List.getElem_toArray, List.getElem_cons_zero, List.getElem_cons_succ, Act.put, List.setIfInBounds_toArray, List.set_cons_zero, List.set_cons_succ]
                refine wpAnyH_done (by kernel_rfl) ?_ _
                have hgw := hS.2.2
                have H8 := Lib.hid (grownBy_trans HG.out hgw)
                clear hgw
                have hE : stA (some p) (⟨f, false, d⟩ : Fg) = if addOk p (8 * f, d) = true then some (withL p (8 * f, d)) else none := rfl
                have hR : addR p (8 * f, d) = if addOk p (8 * f, d) = true then withL p (8 * f, d) else [] := rfl
                have ho := HO.out
                cases hok : addOk p (8 * f, d)
                · rw [hok] at hE
                  have HE := Lib.hid hE
                  clear hok hE hR ho
                  go_wp2_with fail
                  go_ret2
                  refine wh_bad (fun s q => ?_) H8.out
                  have h1 := q.2.2.2.2
                  rw [foldA_none (j := k + 1) (by rw [HN.out, HS.out.2.2.1, HE.out]; rfl)] at h1
                  cases h1
                · rw [hok, if_pos rfl] at hE hR
                  rw [hR] at ho
                  have HE := Lib.hid hE
                  clear hok hE hR
                  have hq2 := foldA_ok (l := l.take (k + 1)) (HT.out HF.out) (by rw [HN.out, HS.out.2.2.1]; exact HE.out)
                  generalize withL p (8 * f, d) = q2 at *
                  obtain ⟨a6, c6, rfl⟩ := fown_slice ho
                  have HQ2 := Lib.hid (And.intro (pk_own ho) (pcs_of hq2).1)
                  clear ho hq2
                  go_wp2_with fail
                  go_roundw
                  case rel => exact ⟨k + 1, q2, a6, c6, 8 * f + (d.length : Int), hlt, by go_num, rfl, rfl, HT.out HF.out, .inr (by omega), by rw [← HQ.out]; exact HX.out, by rw [HN.out, HS.out.2.2.1]; exact HE.out, HQ2.out.1, Nat.le_trans HQ2.out.2 (by decide), H8.out⟩
                  case measure => simp [intOf]; omega
              · have hE2 : 0 ≤ E := by omega
                have hE3 : decide (0 ≤ E) = true := decide_eq_true hE2
                by_cases hEq : E = 8 * f + (d.length : Int)
                · have HX := Lib.hid (HE2.out rfl (by rw [HQ.out]; exact hq0) (.inr (by rw [HQ.out]; exact hEq)))
                  have he3 : (E != 8 * f + (d.length : Int)) = false := by simp [hEq]
                  have he4 : (E == 8 * f + (d.length : Int)) = true := by simp [hEq]
                  clear hEq HE1 HE2 HE3
                  go_upto_region 13 with fail
                  refine wp_region_held_drew (S := fun w' => w'.cell? ⟨b, off + k * 3, none⟩ = some (.int .i64 f) ∧ w'.cell? ⟨b, off + k * 3 + 2, none⟩ = some (.string ⟨d.toArray⟩) ∧ wd.grownBy w' none) (by kernel_rfl) (⟨by first | assumption | (go_simp; done) | (simp [*]; done), by first | assumption | (go_simp; done) | (simp [*]; done), grownBy_trans (World.grownBy.refl _ _) grownBy_drew⟩) (fun hS => ?_)
                  refine wpAnyH_take (i := 0) (v := ?_) rfl (by kernel_rfl) (by kernel_rfl) (by kernel_rfl) (fun _ _ _ h => h) (Or.inl ⟨by kernel_rfl, ?_⟩) hS ?_
                  rotate_left
                  · intro w' hSw
                    obtain ⟨g0, g1, _⟩ := hSw
                    first | (go_simp; done) | (go_simp; with_reducible rfl)
                  simp only [List.getElem_toArray, List.getElem_cons_zero, Act.put, List.setIfInBounds_toArray, List.set_cons_zero, List.set_cons_succ]
                  refine wpAnyH_take (i := 1) (v := ?_) rfl (by kernel_rfl) (by kernel_rfl) (by kernel_rfl) (fun _ _ _ h => h) (Or.inl ⟨by kernel_rfl, ?_⟩) hS ?_
                  rotate_left
                  · intro w' hSw
                    obtain ⟨g0, g1, _⟩ := hSw
                    first | (go_simp; done) | (go_simp; with_reducible rfl)
                  simp only [List.getElem_toArray, List.getElem_cons_zero, List.getElem_cons_succ, Act.put, List.setIfInBounds_toArray, List.set_cons_zero, List.set_cons_succ]
                  refine wpAnyH_take (i := 2) (v := ?_) rfl (by kernel_rfl) (by kernel_rfl) (by kernel_rfl) (fun _ _ _ h => h) (Or.inl ⟨by kernel_rfl, ?_⟩) hS ?_
                  rotate_left
                  · intro w' hSw
                    obtain ⟨g0, g1, _⟩ := hSw
                    first | (go_simp; done) | (go_simp; with_reducible rfl)
                  simp only [List.getElem_toArray, List.getElem_cons_zero, List.getElem_cons_succ, Act.put, List.setIfInBounds_toArray, List.set_cons_zero, List.set_cons_succ]
                  refine wpAnyH_take (i := 3) (v := ?_) rfl (by kernel_rfl) (by kernel_rfl) (by kernel_rfl) (fun _ _ _ h => h) (Or.inl ⟨by kernel_rfl, ?_⟩) hS ?_
                  rotate_left
                  · intro w' hSw
                    obtain ⟨g0, g1, _⟩ := hSw
                    first | (go_simp; done) | (go_simp; with_reducible rfl)
                  simp only [List.getElem_toArray, List.getElem_cons_zero, List.getElem_cons_succ, Act.put, List.setIfInBounds_toArray, List.set_cons_zero, List.set_cons_succ]
                  refine wpAnyH_take (i := 4) (v := ?_) rfl (by kernel_rfl) (by kernel_rfl) (by kernel_rfl) (fun _ _ _ h => h) (Or.inl ⟨by kernel_rfl, ?_⟩) hS ?_
                  rotate_left
                  · intro w' hSw
                    obtain ⟨g0, g1, _⟩ := hSw
                    first | (go_simp; done) | (go_simp; with_reducible rfl)
                  simp only [List.getElem_toArray, List.getElem_cons_zero, List.getElem_cons_succ, Act.put, List.setIfInBounds_toArray, List.set_cons_zero, List.set_cons_succ]
                  refine wpAnyH_take (i := 5) (v := ?_) rfl (by kernel_rfl) (by kernel_rfl) (by kernel_rfl) (fun _ _ _ h => h) (Or.inl ⟨by kernel_rfl, ?_⟩) hS ?_
                  rotate_left
                  · intro w' hSw
                    obtain ⟨g0, g1, _⟩ := hSw
                    first | (go_simp; done) | (go_simp; with_reducible rfl)
                  simp only [List.getElem_toArray, List.getElem_cons_zero, List.getElem_cons_succ, Act.put, List.setIfInBounds_toArray, List.set_cons_zero, List.set_cons_succ]
                  refine wpAnyH_take (i := 6) (v := ?_) rfl (by kernel_rfl) (by kernel_rfl) (by kernel_rfl) (fun _ _ _ h => h) (Or.inl ⟨by kernel_rfl, ?_⟩) hS ?_
                  rotate_left
                  · intro w' hSw
                    obtain ⟨g0, g1, _⟩ := hSw
                    first | (go_simp; done) | (go_simp; with_reducible rfl)
                  simp only [List.getElem_toArray, List.getElem_cons_zero, List.getElem_cons_succ, Act.put, List.setIfInBounds_toArray, List.set_cons_zero, List.set_cons_succ]
                  refine wpAnyH_take (i := 7) (v := ?_) rfl (by kernel_rfl) (by kernel_rfl) (by kernel_rfl) (fun _ _ _ h => h) (Or.inl ⟨by kernel_rfl, ?_⟩) hS ?_
                  rotate_left
                  · intro w' hSw
                    obtain ⟨g0, g1, _⟩ := hSw
                    first | (go_simp; done) | (go_simp; with_reducible rfl)
                  simp only [List.getElem_toArray, List.getElem_cons_zero, List.getElem_cons_succ, Act.put, List.setIfInBounds_toArray, List.set_cons_zero, List.set_cons_succ]
                  refine wpAnyH_take (i := 8) (v := ?_) rfl (by kernel_rfl) (by kernel_rfl) (by kernel_rfl) (fun _ _ _ h => h) (Or.inl ⟨by kernel_rfl, ?_⟩) hS ?_
                  rotate_left
                  · intro w' hSw
                    obtain ⟨g0, g1, _⟩ := hSw
                    first | (go_simp; done) | (go_simp; with_reducible rfl)
                  simp only [List.getElem_toArray, List.getElem_cons_zero, List.getElem_cons_succ, Act.put, List.setIfInBounds_toArray, List.set_cons_zero, List.set_cons_succ]
                  refine wpAnyH_take (i := 9) (v := ?_) rfl (by kernel_rfl) (by kernel_rfl) (by kernel_rfl) (fun _ _ _ h => h) (Or.inl ⟨by kernel_rfl, ?_⟩) hS ?_
                  rotate_left
                  · intro w' hSw
                    obtain ⟨g0, g1, _⟩ := hSw
                    first | (go_simp; done) | (go_simp; with_reducible rfl)
                  simp only [List.getElem_toArray, List.getElem_cons_zero, List.getElem_cons_succ, Act.put, List.setIfInBounds_toArray, List.set_cons_zero, List.set_cons_succ]
                  refine wpAnyH_take (i := 10) (v := ?_) rfl (by kernel_rfl) (by kernel_rfl) (by kernel_rfl) (fun _ _ _ h => h) (Or.inl ⟨by kernel_rfl, ?_⟩) hS ?_
                  rotate_left
                  · intro w' hSw
                    obtain ⟨g0, g1, _⟩ := hSw
                    first | (go_simp; done) | (go_simp; with_reducible rfl)
                  simp only [List.getElem_toArray, List.getElem_cons_zero, List.getElem_cons_succ, Act.put, List.setIfInBounds_toArray, List.set_cons_zero, List.set_cons_succ]
                  refine wpAnyH_take (i := 11) (v := ?_) rfl (by kernel_rfl) (by kernel_rfl) (by kernel_rfl) (fun _ _ _ h => h) (Or.inl ⟨by kernel_rfl, ?_⟩) hS ?_
                  rotate_left
                  · intro w' hSw
                    obtain ⟨g0, g1, _⟩ := hSw
                    first | (go_simp; done) | (go_simp; with_reducible rfl)
                  simp only [List.getElem_toArray, List.getElem_cons_zero, List.getElem_cons_succ, Act.put, List.setIfInBounds_toArray, List.set_cons_zero, List.set_cons_succ]
                  refine wpAnyH_take (i := 12) (v := ?_) rfl (by kernel_rfl) (by kernel_rfl) (by kernel_rfl) (fun _ _ _ h => h) (Or.inl ⟨by kernel_rfl, ?_⟩) hS ?_
                  rotate_left
                  · intro w' hSw
                    obtain ⟨g0, g1, _⟩ := hSw
                    first | (go_simp; done) | (go_simp; with_reducible rfl)
                  simp only [List.getElem_toArray, List.getElem_cons_zero, List.getElem_cons_succ, Act.put, List.setIfInBounds_toArray, List.set_cons_zero, List.set_cons_succ]
                  refine wpAnyH_ready (rs := [13]) (by kernel_rfl) (List.cons_ne_nil _ _) ?_
                  refine AllReadyH.cons rfl (fun K hK => ?_) AllReadyH.nil
                  go_simp
                  go_at_call 31
                  refine (add_spec _ _ _ _ _ _ (HP.out.kept (hS.2.2)) HPL).mono ?_
                  rintro e w8 ⟨v, rfl, hg, ho⟩
                  have HO := Lib.hid ho
                  clear ho
                  refine hK.out _ _ (⟨hg.cell (hS.1) (by simp), hg.cell (hS.2.1) (by simp), grownBy_trans (hS.2.2) hg⟩) (fun hS => ?_)
                  clear hK
                  try simp only [List.getElem_toArray, List.getElem_cons_zero, List.getElem_cons_succ, Act.put, List.setIfInBounds_toArray, List.set_cons_zero, List.set_cons_succ]
                  refine wpAnyH_take (i := 14) (v := ?_) rfl (by kernel_rfl) (by kernel_rfl) (by kernel_rfl) (fun _ _ _ h => h) (Or.inl ⟨by kernel_rfl, ?_⟩) hS ?_
                  rotate_left
                  · intro w' hSw
                    obtain ⟨g0, g1, _⟩ := hSw
                    first | (go_simp; done) | (go_simp; with_reducible rfl)
                  simp only [List.getElem_toArray, List.getElem_cons_zero, List.getElem_cons_succ, Act.put, List.setIfInBounds_toArray, List.set_cons_zero, List.set_cons_succ]
                  refine wpAnyH_take (i := 15) (v := ?_) rfl (by kernel_rfl) (by kernel_rfl) (by kernel_rfl) (fun _ _ _ h => h) (Or.inl ⟨by kernel_rfl, ?_⟩) hS ?_
                  rotate_left
                  · intro w' hSw
                    obtain ⟨g0, g1, _⟩ := hSw
                    first | (go_simp; done) | (go_simp; with_reducible rfl)
                  simp only [List.getElem_toArray, List.getElem_cons_zero, List.getElem_cons_succ, Act.put, List.setIfInBounds_toArray, List.set_cons_zero, List.set_cons_succ]
                  refine wpAnyH_take (i := 16) (v := ?_) rfl (by kernel_rfl) (by kernel_rfl) (by kernel_rfl) (fun _ _ _ h => h) (Or.inl ⟨by kernel_rfl, ?_⟩) hS ?_
                  rotate_left
                  · intro w' hSw
                    obtain ⟨g0, g1, _⟩ := hSw
                    first | (go_simp; done) | (go_simp; with_reducible rfl)
                  simp only [List.getElem_toArray, List.getElem_cons_zero, List.getElem_cons_succ, Act.put, List.setIfInBounds_toArray, List.set_cons_zero, List.set_cons_succ]
                  refine wpAnyH_take (i := 17) (v := ?_) rfl (by kernel_rfl) (by kernel_rfl) (by kernel_rfl) (fun _ _ _ h => h) (Or.inl ⟨by kernel_rfl, ?_⟩) hS ?_
                  rotate_left
                  · intro w' hSw
                    obtain ⟨g0, g1, _⟩ := hSw
                    first | (go_simp; done) | (go_simp; with_reducible rfl)
                  simp only [List.getElem_toArray, List.getElem_cons_zero, List.getElem_cons_succ, Act.put, List.setIfInBounds_toArray, List.set_cons_zero, List.set_cons_succ]
                  refine wpAnyH_take (i := 18) (v := ?_) rfl (by kernel_rfl) (by kernel_rfl) (by kernel_rfl) (fun _ _ _ h => h) (Or.inl ⟨by kernel_rfl, ?_⟩) hS ?_
                  rotate_left
                  · intro w' hSw
                    obtain ⟨g0, g1, _⟩ := hSw
                    first | (go_simp; done) | (go_simp; with_reducible rfl)
                  simp only [List.getElem_toArray, List.getElem_cons_zero, List.getElem_cons_succ, Act.put, List.setIfInBounds_toArray, List.set_cons_zero, List.set_cons_succ]
                  refine wpAnyH_done (by kernel_rfl) ?_ _
                  have hgw := hS.2.2
                  have H8 := Lib.hid (grownBy_trans HG.out hgw)
                  clear hgw
                  have hE : stA (some p) (⟨f, false, d⟩ : Fg) = if addOk p (8 * f, d) = true then some (withL p (8 * f, d)) else none := rfl
                  have hR : addR p (8 * f, d) = if addOk p (8 * f, d) = true then withL p (8 * f, d) else [] := rfl
                  have ho := HO.out
                  cases hok : addOk p (8 * f, d)
                  · rw [hok] at hE
                    have HE := Lib.hid hE
                    clear hok hE hR ho
                    go_wp2_with fail
                    go_ret2
                    refine wh_bad (fun s q => ?_) H8.out
                    have h1 := q.2.2.2.2
                    rw [foldA_none (j := k + 1) (by rw [HN.out, HS.out.2.2.1, HE.out]; rfl)] at h1
                    cases h1
                  · rw [hok, if_pos rfl] at hE hR
                    rw [hR] at ho
                    have HE := Lib.hid hE
                    clear hok hE hR
                    have hq2 := foldA_ok (l := l.take (k + 1)) (HT.out HF.out) (by rw [HN.out, HS.out.2.2.1]; exact HE.out)
                    generalize withL p (8 * f, d) = q2 at *
                    obtain ⟨a6, c6, rfl⟩ := fown_slice ho
                    have HQ2 := Lib.hid (And.intro (pk_own ho) (pcs_of hq2).1)
                    clear ho hq2
                    go_wp2_with fail
                    go_roundw
                    case rel => exact ⟨k + 1, q2, a6, c6, 8 * f + (d.length : Int), hlt, by go_num, rfl, rfl, HT.out HF.out, .inr (by omega), by rw [← HQ.out]; exact HX.out, by rw [HN.out, HS.out.2.2.1]; exact HE.out, HQ2.out.1, Nat.le_trans HQ2.out.2 (by decide), H8.out⟩
                    case measure => simp [intOf]; omega
                · have HX := Lib.hid (HE3.out rfl hE2 (by rw [HQ.out]; exact hEq))
                  have he3 : (E != 8 * f + (d.length : Int)) = true := by simp [hEq]
                  have he4 : (E == 8 * f + (d.length : Int)) = false := by simp [hEq]
                  clear hEq HE1 HE2 HE3
                  go_wp2_with fail
                  go_ret2
                  exact wh_bad HX.out HG.out
            · have HX := Lib.hid (HE1.out rfl)
              go_upto_region 13 with fail
              refine wp_region_held_drew (S := fun w' => w'.cell? ⟨b, off + k * 3, none⟩ = some (.int .i64 f) ∧ w'.cell? ⟨b, off + k * 3 + 2, none⟩ = some (.string ⟨d.toArray⟩) ∧ wd.grownBy w' none) (by kernel_rfl) (⟨by first | assumption | (go_simp; done) | (simp [*]; done), by first | assumption | (go_simp; done) | (simp [*]; done), grownBy_trans (World.grownBy.refl _ _) grownBy_drew⟩) (fun hS => ?_)
              refine wpAnyH_take (i := 0) (v := ?_) rfl (by kernel_rfl) (by kernel_rfl) (by kernel_rfl) (fun _ _ _ h => h) (Or.inl ⟨by kernel_rfl, ?_⟩) hS ?_
              rotate_left
              · intro w' hSw
                obtain ⟨g0, g1, _⟩ := hSw
                first | (go_simp; done) | (go_simp; with_reducible rfl)
              simp only [List.getElem_toArray, List.getElem_cons_zero, Act.put, List.setIfInBounds_toArray, List.set_cons_zero, List.set_cons_succ]
              refine wpAnyH_take (i := 1) (v := ?_) rfl (by kernel_rfl) (by kernel_rfl) (by kernel_rfl) (fun _ _ _ h => h) (Or.inl ⟨by kernel_rfl, ?_⟩) hS ?_
              rotate_left
              · intro w' hSw
                obtain ⟨g0, g1, _⟩ := hSw
                first | (go_simp; done) | (go_simp; with_reducible rfl)
              simp only [List.getElem_toArray, List.getElem_cons_zero, List.getElem_cons_succ, Act.put, List.setIfInBounds_toArray, List.set_cons_zero, List.set_cons_succ]
              refine wpAnyH_take (i := 2) (v := ?_) rfl (by kernel_rfl) (by kernel_rfl) (by kernel_rfl) (fun _ _ _ h => h) (Or.inl ⟨by kernel_rfl, ?_⟩) hS ?_
              rotate_left
              · intro w' hSw
                obtain ⟨g0, g1, _⟩ := hSw
                first | (go_simp; done) | (go_simp; with_reducible rfl)
              simp only [List.getElem_toArray, List.getElem_cons_zero, List.getElem_cons_succ, Act.put, List.setIfInBounds_toArray, List.set_cons_zero, List.set_cons_succ]
              refine wpAnyH_take (i := 3) (v := ?_) rfl (by kernel_rfl) (by kernel_rfl) (by kernel_rfl) (fun _ _ _ h => h) (Or.inl ⟨by kernel_rfl, ?_⟩) hS ?_
              rotate_left
              · intro w' hSw
                obtain ⟨g0, g1, _⟩ := hSw
                first | (go_simp; done) | (go_simp; with_reducible rfl)
              simp only [List.getElem_toArray, List.getElem_cons_zero, List.getElem_cons_succ, Act.put, List.setIfInBounds_toArray, List.set_cons_zero, List.set_cons_succ]
              refine wpAnyH_take (i := 4) (v := ?_) rfl (by kernel_rfl) (by kernel_rfl) (by kernel_rfl) (fun _ _ _ h => h) (Or.inl ⟨by kernel_rfl, ?_⟩) hS ?_
              rotate_left
              · intro w' hSw
                obtain ⟨g0, g1, _⟩ := hSw
                first | (go_simp; done) | (go_simp; with_reducible rfl)
              simp only [List.getElem_toArray, List.getElem_cons_zero, List.getElem_cons_succ, Act.put, List.setIfInBounds_toArray, List.set_cons_zero, List.set_cons_succ]
              refine wpAnyH_take (i := 5) (v := ?_) rfl (by kernel_rfl) (by kernel_rfl) (by kernel_rfl) (fun _ _ _ h => h) (Or.inl ⟨by kernel_rfl, ?_⟩) hS ?_
              rotate_left
              · intro w' hSw
                obtain ⟨g0, g1, _⟩ := hSw
                first | (go_simp; done) | (go_simp; with_reducible rfl)
              simp only [List.getElem_toArray, List.getElem_cons_zero, List.getElem_cons_succ, Act.put, List.setIfInBounds_toArray, List.set_cons_zero, List.set_cons_succ]
              refine wpAnyH_take (i := 6) (v := ?_) rfl (by kernel_rfl) (by kernel_rfl) (by kernel_rfl) (fun _ _ _ h => h) (Or.inl ⟨by kernel_rfl, ?_⟩) hS ?_
              rotate_left
              · intro w' hSw
                obtain ⟨g0, g1, _⟩ := hSw
                first | (go_simp; done) | (go_simp; with_reducible rfl)
              simp only [List.getElem_toArray, List.getElem_cons_zero, List.getElem_cons_succ, Act.put, List.setIfInBounds_toArray, List.set_cons_zero, List.set_cons_succ]
              refine wpAnyH_take (i := 7) (v := ?_) rfl (by kernel_rfl) (by kernel_rfl) (by kernel_rfl) (fun _ _ _ h => h) (Or.inl ⟨by kernel_rfl, ?_⟩) hS ?_
              rotate_left
              · intro w' hSw
                obtain ⟨g0, g1, _⟩ := hSw
                first | (go_simp; done) | (go_simp; with_reducible rfl)
              simp only [List.getElem_toArray, List.getElem_cons_zero, List.getElem_cons_succ, Act.put, List.setIfInBounds_toArray, List.set_cons_zero, List.set_cons_succ]
              refine wpAnyH_take (i := 8) (v := ?_) rfl (by kernel_rfl) (by kernel_rfl) (by kernel_rfl) (fun _ _ _ h => h) (Or.inl ⟨by kernel_rfl, ?_⟩) hS ?_
              rotate_left
              · intro w' hSw
                obtain ⟨g0, g1, _⟩ := hSw
                first | (go_simp; done) | (go_simp; with_reducible rfl)
              simp only [List.getElem_toArray, List.getElem_cons_zero, List.getElem_cons_succ, Act.put, List.setIfInBounds_toArray, List.set_cons_zero, List.set_cons_succ]
              refine wpAnyH_take (i := 9) (v := ?_) rfl (by kernel_rfl) (by kernel_rfl) (by kernel_rfl) (fun _ _ _ h => h) (Or.inl ⟨by kernel_rfl, ?_⟩) hS ?_
              rotate_left
              · intro w' hSw
                obtain ⟨g0, g1, _⟩ := hSw
                first | (go_simp; done) | (go_simp; with_reducible rfl)
              simp only [List.getElem_toArray, List.getElem_cons_zero, List.getElem_cons_succ, Act.put, List.setIfInBounds_toArray, List.set_cons_zero, List.set_cons_succ]
              refine wpAnyH_take (i := 10) (v := ?_) rfl (by kernel_rfl) (by kernel_rfl) (by kernel_rfl) (fun _ _ _ h => h) (Or.inl ⟨by kernel_rfl, ?_⟩) hS ?_
              rotate_left
              · intro w' hSw
                obtain ⟨g0, g1, _⟩ := hSw
                first | (go_simp; done) | (go_simp; with_reducible rfl)
              simp only [List.getElem_toArray, List.getElem_cons_zero, List.getElem_cons_succ, Act.put, List.setIfInBounds_toArray, List.set_cons_zero, List.set_cons_succ]
              refine wpAnyH_take (i := 11) (v := ?_) rfl (by kernel_rfl) (by kernel_rfl) (by kernel_rfl) (fun _ _ _ h => h) (Or.inl ⟨by kernel_rfl, ?_⟩) hS ?_
              rotate_left
              · intro w' hSw
                obtain ⟨g0, g1, _⟩ := hSw
                first | (go_simp; done) | (go_simp; with_reducible rfl)
              simp only [List.getElem_toArray, List.getElem_cons_zero, List.getElem_cons_succ, Act.put, List.setIfInBounds_toArray, List.set_cons_zero, List.set_cons_succ]
              refine wpAnyH_take (i := 12) (v := ?_) rfl (by kernel_rfl) (by kernel_rfl) (by kernel_rfl) (fun _ _ _ h => h) (Or.inl ⟨by kernel_rfl, ?_⟩) hS ?_
              rotate_left
              · intro w' hSw
                obtain ⟨g0, g1, _⟩ := hSw
                first | (go_simp; done) | (go_simp; with_reducible rfl)
              simp only [List.getElem_toArray, List.getElem_cons_zero, List.getElem_cons_succ, Act.put, List.setIfInBounds_toArray, List.set_cons_zero, List.set_cons_succ]
              refine wpAnyH_ready (rs := [13]) (by kernel_rfl) (List.cons_ne_nil _ _) ?_
              refine AllReadyH.cons rfl (fun K hK => ?_) AllReadyH.nil
              go_simp
              go_at_call 31
              refine (add_spec _ _ _ _ _ _ (HP.out.kept (hS.2.2)) HPL).mono ?_
              rintro e w8 ⟨v, rfl, hg, ho⟩
              have HO := Lib.hid ho
              clear ho
              refine hK.out _ _ (⟨hg.cell (hS.1) (by simp), hg.cell (hS.2.1) (by simp), grownBy_trans (hS.2.2) hg⟩) (fun hS => ?_)
              clear hK
              try simp only [List.getElem_toArray, List.getElem_cons_zero, List.getElem_cons_succ, Act.put, List.setIfInBounds_toArray, List.set_cons_zero, List.set_cons_succ]
              refine wpAnyH_take (i := 14) (v := ?_) rfl (by kernel_rfl) (by kernel_rfl) (by kernel_rfl) (fun _ _ _ h => h) (Or.inl ⟨by kernel_rfl, ?_⟩) hS ?_
              rotate_left
              · intro w' hSw
                obtain ⟨g0, g1, _⟩ := hSw
                first | (go_simp; done) | (go_simp; with_reducible rfl)
              simp only [List.getElem_toArray, List.getElem_cons_zero, List.getElem_cons_succ, Act.put, List.setIfInBounds_toArray, List.set_cons_zero, List.set_cons_succ]
              refine wpAnyH_take (i := 15) (v := ?_) rfl (by kernel_rfl) (by kernel_rfl) (by kernel_rfl) (fun _ _ _ h => h) (Or.inl ⟨by kernel_rfl, ?_⟩) hS ?_
              rotate_left
              · intro w' hSw
                obtain ⟨g0, g1, _⟩ := hSw
                first | (go_simp; done) | (go_simp; with_reducible rfl)
              simp only [List.getElem_toArray, List.getElem_cons_zero, List.getElem_cons_succ, Act.put, List.setIfInBounds_toArray, List.set_cons_zero, List.set_cons_succ]
              refine wpAnyH_take (i := 16) (v := ?_) rfl (by kernel_rfl) (by kernel_rfl) (by kernel_rfl) (fun _ _ _ h => h) (Or.inl ⟨by kernel_rfl, ?_⟩) hS ?_
              rotate_left
              · intro w' hSw
                obtain ⟨g0, g1, _⟩ := hSw
                first | (go_simp; done) | (go_simp; with_reducible rfl)
              simp only [List.getElem_toArray, List.getElem_cons_zero, List.getElem_cons_succ, Act.put, List.setIfInBounds_toArray, List.set_cons_zero, List.set_cons_succ]
              refine wpAnyH_take (i := 17) (v := ?_) rfl (by kernel_rfl) (by kernel_rfl) (by kernel_rfl) (fun _ _ _ h => h) (Or.inl ⟨by kernel_rfl, ?_⟩) hS ?_
              rotate_left
              · intro w' hSw
                obtain ⟨g0, g1, _⟩ := hSw
                first | (go_simp; done) | (go_simp; with_reducible rfl)
              simp only [List.getElem_toArray, List.getElem_cons_zero, List.getElem_cons_succ, Act.put, List.setIfInBounds_toArray, List.set_cons_zero, List.set_cons_succ]
              refine wpAnyH_take (i := 18) (v := ?_) rfl (by kernel_rfl) (by kernel_rfl) (by kernel_rfl) (fun _ _ _ h => h) (Or.inl ⟨by kernel_rfl, ?_⟩) hS ?_
              rotate_left
              · intro w' hSw
                obtain ⟨g0, g1, _⟩ := hSw
                first | (go_simp; done) | (go_simp; with_reducible rfl)
              simp only [List.getElem_toArray, List.getElem_cons_zero, List.getElem_cons_succ, Act.put, List.setIfInBounds_toArray, List.set_cons_zero, List.set_cons_succ]
              refine wpAnyH_done (by kernel_rfl) ?_ _
              have hgw := hS.2.2
              have H8 := Lib.hid (grownBy_trans HG.out hgw)
              clear hgw
              have hE : stA (some p) (⟨f, true, d⟩ : Fg) = if addOk p (8 * f, d) = true then some (withL p (8 * f, d)) else none := rfl
              have hR : addR p (8 * f, d) = if addOk p (8 * f, d) = true then withL p (8 * f, d) else [] := rfl
              have ho := HO.out
              cases hok : addOk p (8 * f, d)
              · rw [hok] at hE
                have HE := Lib.hid hE
                clear hok hE hR ho
                go_wp2_with fail
                go_ret2
                refine wh_bad (fun s q => ?_) H8.out
                have h1 := q.2.2.2.2
                rw [foldA_none (j := k + 1) (by rw [HN.out, HS.out.2.2.1, HE.out]; rfl)] at h1
                cases h1
              · rw [hok, if_pos rfl] at hE hR
                rw [hR] at ho
                have HE := Lib.hid hE
                clear hok hE hR
                have hq2 := foldA_ok (l := l.take (k + 1)) (HT.out HF.out) (by rw [HN.out, HS.out.2.2.1]; exact HE.out)
                generalize withL p (8 * f, d) = q2 at *
                obtain ⟨a6, c6, rfl⟩ := fown_slice ho
                have HQ2 := Lib.hid (And.intro (pk_own ho) (pcs_of hq2).1)
                clear ho hq2
                go_wp2_with fail
                go_roundw
                case rel => exact ⟨k + 1, q2, a6, c6, E, hlt, by go_num, rfl, rfl, HT.out HF.out, .inr (by omega), HX.out, by rw [HN.out, HS.out.2.2.1]; exact HE.out, HQ2.out.1, Nat.le_trans HQ2.out.2 (by decide), H8.out⟩
                case measure => simp [intOf]; omega
        · rw [decide_eq_false hfr]
          have HF := Lib.hid hfr
          clear hfr
          go_wp2_with fail
          go_ret2
          exact wh_bad (fun s q => HF.out (q.1 _ HM.out)) H5.out.2
    · obtain rfl : k = l.length := by omega
      rw [List.take_length] at HS
      have HW := Lib.hid (ws_end HS.out.1 (h2.imp List.length_eq_zero_iff.mp id) HS.out.2.1 HS.out.2.2.1)
      by_cases hE : E < 0
      · go_wp2_with fail
        go_ret2
        exact wh_bad (fun s q => by have := (HW.out.2 s q).1; omega) HS.out.2.2.2.2
      · have hE2 : decide (E < 0) = false := decide_eq_false hE
        by_cases g1 : p.length = 1
        · obtain ⟨⟨x, s⟩, rfl⟩ := List.length_eq_one_iff.mp g1
          rcases HS.out.2.2.2.1 with h0 | ⟨b, off, rfl, hbb, hc⟩
          · simp at h0
          · obtain ⟨c0, c1⟩ := hc 0 (by simp)
            clear hc hbb g1
            simp only [List.getElem_cons_zero, Nat.zero_mul, Nat.add_zero] at c0 c1
            by_cases gx : x = 0
            · by_cases gs : (s.length : Int) = E
              · have HY := Lib.hid (HW.out.1 s (by omega) (by rw [gx]) gs)
                have e1 : (x != 0) = false := by simp [gx]
                have e2 : (x == 0) = true := by simp [gx]
                have e3 : ((s.length : Int) != E) = false := by simp [gs]
                have e4 : ((s.length : Int) == E) = true := by simp [gs]
                clear gx gs
                go_wp2_with fail
                go_ret2
                exact wh_ret HY.out HS.out.2.2.2.2
              · have HY := Lib.hid (fun t (q : WP l t) => gs (by have h := (HW.out.2 t q); have h2 := h.2.1; simp at h2; rw [h2.2]; exact h.2.2))
                have e1 : (x != 0) = false := by simp [gx]
                have e2 : (x == 0) = true := by simp [gx]
                have e3 : ((s.length : Int) != E) = true := by simp [gs]
                have e4 : ((s.length : Int) == E) = false := by simp [gs]
                clear gx gs
                go_wp2_with fail
                go_ret2
                exact wh_bad HY.out HS.out.2.2.2.2
            · have HY := Lib.hid (fun t (q : WP l t) => gx (by have h := (HW.out.2 t q).2.1; simp at h; exact h.1))
              have e1 : (x != 0) = true := by simp [gx]
              have e2 : (x == 0) = false := by simp [gx]
              clear gx
              go_wp2_with fail
              go_ret2
              exact wh_bad HY.out HS.out.2.2.2.2
        · have HY := Lib.hid (fun t (q : WP l t) => g1 (by rw [(HW.out.2 t q).2.1]; rfl))
          have e1 : ((p.length : Int) != 1) = true := by simp; omega
          have e2 : ((p.length : Int) == 1) = false := by simp; omega
          clear g1
          go_wp2_with fail
          go_ret2
          exact wh_bad HY.out HS.out.2.2.2.2

end Go.Proofs.Ytjgmkjbeagcgfaa
