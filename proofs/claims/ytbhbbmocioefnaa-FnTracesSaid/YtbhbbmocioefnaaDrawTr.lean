/- The drawings of traces. -/
import Derived.Test.YtbhbbmocioefnaaDrawPk
namespace Go.Proofs.Ytbhbbmocioefnaa
open Go.RowKit

def TrDPost (w : World) (e : Ending) (w' : World) : Prop :=
  ∃ (l : List Pk) (v : Value) (b : Bool), l.length ≤ 4 ∧ (∀ x ∈ l, (Lit.int .i64 x.1).wf = true ∧ x.2.length ≤ 9) ∧ e = .returned (.tuple #[v, .bool b]) ∧ w.grownBy w' none ∧ w'.ownsRow w.heap.size 55 2 v l.length (pksV l)

theorem own_base {w : World} {B C : Nat} {e : TypeId} {s n : Nat} {v : Value} {xs : List Value} (h : w.ownsRow B e s v n xs) (hC : C ≤ B) : w.ownsRow C e s v n xs := by
  refine ⟨h.1, ?_⟩
  rcases h.2 with h2 | ⟨g, cap, cur, hv, hb, h3⟩
  · exact .inl h2
  · exact .inr ⟨g, cap, cur, hv, Nat.le_trans hC hb, h3⟩

set_option maxRecDepth 100000 in
theorem draw_traceb (a : Option Addr) (n c : Nat) (w : World) (h : CodeIn w a n) : Calls Try.prog 7 #[.slice a n c] w (TrDPost w) := by
  have HA := Lib.hid h
  clear h
  go_enter Try.func7, Try.ntmps7
  go_wp2_with fail
  refine (open_any _ _ _ _ HA.out).mono ?_
  rintro e w1 ⟨rfl, hg, hr⟩
  have H1 := Lib.hid (And.intro hr hg)
  have HZ := Lib.hid hg.size
  clear hg hr
  go_wp2_with fail
  refine (packets_draw _ 4 _ H1.out.1 (by omega)).mono ?_
  rintro e w2 ⟨l, v, hl, hL, rfl, hg, hr, hown⟩
  have hne : v.ownBlock = none ∨ v.ownBlock ≠ some w.heap.size := by
    by_cases hn : v.ownBlock = none
    · exact .inl hn
    · exact .inr fun e => by have := (hown.lt _ e).1; have := H1.out.1.lt; omega
  have H2 := Lib.hid (And.intro hr (And.intro (grownBy_new H1.out.2 hg (Nat.le_refl _)) (And.intro (own_base hown HZ.out) (And.intro hne hL))))
  clear hg hr hown hne hL
  go_wp2_with fail
  refine (once_any _ _ _ H2.out.1 (by omega) (by omega)).mono ?_
  rintro e w3 ⟨b, rfl, hg, hr⟩
  have H3 := Lib.hid (And.intro (grownBy_new H2.out.2.1 hg (Nat.le_refl _)) (H2.out.2.2.1.kept hg H2.out.2.2.2.1))
  clear hg hr
  go_wp2_with fail
  exact bodyPost_ret (v := .tuple #[v, .bool b]) (by simp [results, Try.results7, go_sem]) rfl ⟨l, v, b, hl, H2.out.2.2.2.2, rfl, H3.out.1, H3.out.2⟩

theorem traceL_len (l : List Pk) (big : Bool) (hl : l.length ≤ 4) : (traceL l big).length ≤ 2048 := by
  unfold traceL
  split
  · rename_i hok
    rw [traceT, List.length_append, headL_len]
    have := pks_len big l hok.2
    omega
  · simp

set_option maxRecDepth 100000 in
set_option maxHeartbeats 1000000 in
theorem draw_rtrace (a : Option Addr) (n c : Nat) (w : World) (h : CodeIn w a n) : Calls Try.prog 9 #[.slice a n c] w (DrawTPost w 3000) := by
  have HA := Lib.hid h
  clear h
  go_enter Try.func9, Try.ntmps9
  go_wp2_with fail
  refine (open_any _ _ _ _ HA.out).mono ?_
  rintro e w1 ⟨rfl, hg, hr⟩
  have H1 := Lib.hid (And.intro hr hg)
  clear hg hr
  go_wp2_with fail
  refine (once_any _ _ _ H1.out.1 (by omega) (by omega)).mono ?_
  rintro e w2 ⟨big, rfl, hg, hr⟩
  have H2 := Lib.hid (And.intro hr (grownBy_new H1.out.2 hg (Nat.le_refl _)))
  clear hg hr
  go_wp2_with fail
  refine (packets_draw _ 3 _ H2.out.1 (by omega)).mono ?_
  rintro e w3 ⟨l, v, hl, hL, rfl, hg, hr, hown⟩
  obtain ⟨ao, cp, rfl⟩ := own_slice hown
  have H3 := Lib.hid (And.intro hr (And.intro (grownBy_new H2.out.2 hg (Nat.le_refl _)) (And.intro (pk_own hown) hL)))
  clear hg hr hown hL
  go_wp2_with fail
  refine (trace_spec _ _ _ _ _ H3.out.2.2.1 (fun x hx => by have := (H3.out.2.2.2 x hx).2; omega)).mono ?_
  rintro e w4 ⟨rfl, hg⟩
  have hsl := traceL_len l big (by omega)
  generalize traceL l big = s at *
  have H4 := Lib.hid (And.intro (H3.out.1.kept hg (by simp) (by simp)) (grownBy_trans H3.out.2.1 hg))
  clear hg
  go_wp2_with fail
  refine (once_any _ _ _ H4.out.1 (by omega) (by omega)).mono ?_
  rintro e w5 ⟨b2, rfl, hg, hr⟩
  have H5 := Lib.hid (And.intro hr (grownBy_new H4.out.2 hg (Nat.le_refl _)))
  clear hg hr
  cases b2
  · go_wp2_with fail
    refine (hurt_any _ s _ H5.out.1 (by omega)).mono ?_
    rintro e w6 ⟨m, hm, rfl, hg, hr⟩
    have H6 := Lib.hid (grownBy_new H5.out.2 hg (Nat.le_refl _))
    clear hg hr
    go_wp2_with fail
    go_ret
    exact ⟨m, by omega, rfl, H6.out⟩
  · go_wp2_with fail
    refine (block_draw _ _ H5.out.1).mono ?_
    rintro e w6 ⟨k, m, hk, hm, rfl, hg, hr⟩
    have H6 := Lib.hid (grownBy_new H5.out.2 hg (Nat.le_refl _))
    clear hg hr hk
    go_wp2_with fail
    refine (block_spec k m big _ (by omega)).mono ?_
    rintro e w7 ⟨rfl, hg⟩
    have hbl := blockL_len k m big
    generalize blockL k m big = bb at *
    have H7 := Lib.hid (grownBy_trans H6.out hg)
    have hk1 : ¬ 9223372036854775807 < s.length + bb.length := by omega
    clear hg
    go_wp2_with fail
    go_ret
    exact ⟨s ++ bb, by simp; omega, ret_ba (by rw [ba_append]), H7.out⟩

end Go.Proofs.Ytbhbbmocioefnaa
