/- Windows: the drawing of a state and a row of events. -/
import Derived.Test.YtklbnpnngfoecaaEvr
import Derived.Test.YtklbnpnngfoecaaRnG
namespace Go.Proofs.Ytklbnpnngfoecaa
open Go.RowKit

theorem ev_own {w : World} {base : Nat} {e : TypeId} {ao : Option Addr} {c : Nat} {l : List Ev} (h : w.ownsRow base e 5 (.slice ao l.length c) l.length (evsV l)) : EvAt w ao l := by
  rcases h.2 with ⟨_, h0⟩ | ⟨g, cap', cur, hv, _⟩
  · exact .inl (List.length_eq_zero_iff.mp h0)
  · simp at hv
    obtain ⟨rfl, rfl⟩ := hv
    exact evAt_own h rfl
theorem five_new (W : World) (v0 v1 v2 v3 v4 : Value) (t : TypeId) : ∀ (j : Nat) (u : Value), [v0, v1, v2, v3, v4][j]? = some u → (W.alloc (.cells #[v0, v1, v2, v3, v4] t)).cell? ((⟨W.heap.size, 0, none⟩ : Addr).add j) = some u := by
  intro j u hu
  have h := Bx.new W t #[v0, v1, v2, v3, v4]
  rw [add_at, Nat.zero_add]
  exact h.c j (by simpa using hu)
theorem row_of {w : World} {base : Nat} {e : TypeId} {s n : Nat} {v : Value} {xs : List Value} (h : w.ownsRow base e s v n xs) : ∃ ao c, v = .slice ao n c := by
  rcases h.2 with ⟨hv, h0⟩ | ⟨g, cap', cur, hv, _⟩
  · exact ⟨none, 0, by rw [hv, h0]⟩
  · exact ⟨_, _, hv⟩
theorem grown_row2 {w a b : World} {r C : Nat} {v : Value} {n : Nat} {xs : List Value} {e : TypeId} {size : Nat} (h : w.grownBy a (some r)) (k : a.grownBy b v.ownBlock) (ho : a.ownsRow C e size v n xs) (hC : w.heap.size ≤ C) : w.grownBy b (some r) :=
  ⟨k.os.trans h.os, k.tape.trans h.tape, k.output.trans h.output, Nat.le_trans h.size k.size, fun i hi hne => (k.block i (Nat.lt_of_lt_of_le hi h.size) (fun e => by have := ho.lt i e.symm; omega)).trans (h.block i hi hne)⟩

def DpRel (w1 : World) (r C E Z : Nat) (xs : Array Value) (v i : Value) (wr : World) : Prop :=
  ∃ (j : Nat) (t : List Ev), j + t.length ≤ 8 ∧ i = .int .i64 (j : Nat) ∧ wr.ownsRow C 41 5 v t.length (evsV t) ∧ Bx wr E 25 xs ∧ Bx wr Z 25 #[.int .i64 0, .int .i64 0, .int .i64 0, .int .i64 0, .int .i64 0, .int .i64 0, .int .i64 0] ∧ RdOk wr r ∧ w1.grownBy wr (some r) ∧ v ≠ .slice none 0 0
def DpPost (w : World) (e : Ending) (w' : World) : Prop :=
  ∃ (m y l p d o g : Int) (t : List Ev) (b c : Nat), e = .returned (.tuple #[.agg #[.int .i64 m, .int .i64 y, .int .i64 l, .int .i64 p, .int .i64 d, .int .i64 o, .int .i64 g], .slice (some ⟨b, 0, none⟩) t.length c]) ∧ t.length ≤ 8 ∧ t.length ≤ c ∧ c ≤ maxLen ∧ EvAt w' (some ⟨b, 0, none⟩) t ∧ w.grownBy w' none

set_option maxRecDepth 100000 in
set_option maxHeartbeats 4000000 in
theorem draw_play (a : Option Addr) (n c : Nat) (w : World) (h : CodeIn w a n) : Calls Try.prog 5 #[.slice a n c] w (DpPost w) := by
  obtain ⟨i0, hi, hz0, hz1, hz2⟩ := info_of5 infoEv
  have H := Lib.hid h
  clear h
  go_enter Try.func5, Try.ntmps5
  go_wp2_with fail
  refine (open_any _ _ _ _ (H.out.kept (World.grownBy_alloc _ _ _))).mono ?_
  rintro e w1 ⟨rfl, hg, hr⟩
  simp only [World.size_alloc] at hr
  have H1 := Lib.hid (And.intro (grownBy_trans (World.grownBy_alloc _ _ _) hg) (And.intro hr ((Bx.new w 25 #[.int .i64 0, .int .i64 0, .int .i64 0, .int .i64 0, .int .i64 0, .int .i64 0, .int .i64 0]).keep hg)))
  clear hg hr
  go_wp2_with fail
  refine (reno_draw _ _ H1.out.2.1).mono ?_
  rintro e w2 ⟨m, y, l, p, d, o, g, rfl, hg, hr⟩
  have HL := Lib.hid (And.intro hr.lt (And.intro (H1.out.2.2.lt) H1.out.2.1.lt))
  have H3 := Lib.hid (show w1.grownBy (w2.alloc (.cells #[.int .i64 m, .int .i64 y, .int .i64 l, .int .i64 p, .int .i64 d, .int .i64 o, .int .i64 g] 25)) (some (w.heap.size + 1)) ∧ RdOk (w2.alloc (.cells #[.int .i64 m, .int .i64 y, .int .i64 l, .int .i64 p, .int .i64 d, .int .i64 o, .int .i64 g] 25)) (w.heap.size + 1) ∧ Bx (w2.alloc (.cells #[.int .i64 m, .int .i64 y, .int .i64 l, .int .i64 p, .int .i64 d, .int .i64 o, .int .i64 g] 25)) w.heap.size 25 #[.int .i64 0, .int .i64 0, .int .i64 0, .int .i64 0, .int .i64 0, .int .i64 0, .int .i64 0] ∧ Bx (w2.alloc (.cells #[.int .i64 m, .int .i64 y, .int .i64 l, .int .i64 p, .int .i64 d, .int .i64 o, .int .i64 g] 25)) w2.heap.size 25 #[.int .i64 m, .int .i64 y, .int .i64 l, .int .i64 p, .int .i64 d, .int .i64 o, .int .i64 g] ∧ (w2.alloc (.cells #[.int .i64 m, .int .i64 y, .int .i64 l, .int .i64 p, .int .i64 d, .int .i64 o, .int .i64 g] 25)).heap.size = w2.heap.size + 1 ∧ w1.heap.size ≤ w2.heap.size from ⟨grownBy_trans hg (World.grownBy_alloc _ _ _), hr.alloc _, (H1.out.2.2.kept hg (by simp)).alloc _, Bx.new _ _ _, World.size_alloc _ _, hg.size⟩)
  clear hg hr
  go_wp2_with fail
  generalize hw3 : w2.alloc (.cells #[.int .i64 m, .int .i64 y, .int .i64 l, .int .i64 p, .int .i64 d, .int .i64 o, .int .i64 g] 25) = w3 at *
  generalize w2.heap.size = E at *
  clear hw3
  have hrow : (w3.alloc (.cells #[] 41)).ownsRow (E + 1) 41 5 (.slice (some ⟨w3.heap.size, 0, none⟩) 0 0) 0 [] := World.ownsRow_lit w3 #[] 0 (by rw [H3.out.2.2.2.2.1]; exact Nat.le_refl _) (Nat.zero_le _) rfl
  have H4 := Lib.hid (And.intro (grownBy_trans H3.out.1 (World.grownBy_alloc w3 (.cells #[] 41) _)) (And.intro (H3.out.2.1.alloc (.cells #[] 41)) (And.intro (H3.out.2.2.1.alloc (.cells #[] 41)) (And.intro (H3.out.2.2.2.1.alloc (.cells #[] 41)) hrow))))
  clear hrow
  refine (below_any _ _ _ H4.out.2.1 (by omega)).mono ?_
  rintro e w5 ⟨q, q0, q1, rfl, hg, hr⟩
  obtain ⟨j, rfl⟩ := Int.eq_ofNat_of_zero_le q0
  have hj8 : j ≤ 8 := by have : (j : Int) ≤ 8 := (by simpa using q1); omega
  have hlt3 : w.heap.size + 1 < E := by have := HL.out; omega
  have hw1 : w1.heap.size ≤ E := H3.out.2.2.2.2.2
  have hst : DpRel w1 (w.heap.size + 1) (E + 1) E w.heap.size #[.int .i64 m, .int .i64 y, .int .i64 l, .int .i64 p, .int .i64 d, .int .i64 o, .int .i64 g] (.slice (some ⟨w3.heap.size, 0, none⟩) 0 0) (.int .i64 (j : Nat)) w5 :=
    ⟨j, [], by simpa using hj8, rfl, H4.out.2.2.2.2.kept hg (.inr (by simp [Value.ownBlock]; have := H3.out.2.2.2.2.1; omega)), H4.out.2.2.2.1.kept hg (by simp; omega), H4.out.2.2.1.kept hg (by simp), hr, grownBy_trans H4.out.1 hg, by simp⟩
  have HST := Lib.hid hst
  clear hst hg hr q0 q1
  go_wp2_with fail
  go_loopw [6, 7] (fun v i wr => DpRel w1 (w.heap.size + 1) (E + 1) E w.heap.size #[.int .i64 m, .int .i64 y, .int .i64 l, .int .i64 p, .int .i64 d, .int .i64 o, .int .i64 g] v i wr) (fun _ i _ => (intOf i).toNat)
  case atStart => have h := HST.out; rw [H3.out.2.2.2.2.1] at h; exact h
  case round =>
    clear HST hj8
    obtain ⟨j, t, hj, rfl, hown, hE, hZ, hr, hg, hnil⟩ := hrel
    have HS := Lib.hid (And.intro hown (And.intro hE (And.intro hZ (And.intro hr hg))))
    clear hown hE hZ hr hg
    by_cases h0 : j = 0
    · subst h0
      obtain ⟨bb, cc, hv, hle, hmx⟩ : ∃ b c, u6 = .slice (some ⟨b, 0, none⟩) t.length c ∧ t.length ≤ c ∧ c ≤ maxLen := by
        rcases HS.out.1.2 with ⟨hv, _⟩ | ⟨g', cap', cur, hv, _, _, hle, hmx, _⟩
        · exact absurd hv hnil
        · exact ⟨_, _, hv, hle, hmx⟩
      clear hnil
      subst hv
      have HA := Lib.hid HS.out.1
      have hnz : (Value.slice (some ⟨bb, 0, none⟩) t.length cc).ownBlock = none ∨ (Value.slice (some ⟨bb, 0, none⟩) t.length cc).ownBlock ≠ some w.heap.size := by
        by_cases hn : (Value.slice (some ⟨bb, 0, none⟩) t.length cc).ownBlock = none
        · exact .inl hn
        · refine .inr fun e => ?_
          have := HA.out.lt w.heap.size e
          omega
      have HN := Lib.hid hnz
      clear hnz
      have c0 := HS.out.2.1.c 0 (x := .int .i64 m) rfl
      have c1 := HS.out.2.1.c 1 (x := .int .i64 y) rfl
      have c2 := HS.out.2.1.c 2 (x := .int .i64 l) rfl
      have c3 := HS.out.2.1.c 3 (x := .int .i64 p) rfl
      have c4 := HS.out.2.1.c 4 (x := .int .i64 d) rfl
      have c5 := HS.out.2.1.c 5 (x := .int .i64 o) rfl
      have c6 := HS.out.2.1.c 6 (x := .int .i64 g) rfl
      have z0 := HS.out.2.2.1.c 0 (x := .int .i64 0) rfl
      have zf0 := HS.out.2.2.1.f 0
      have z1 := HS.out.2.2.1.c 1 (x := .int .i64 0) rfl
      have zf1 := HS.out.2.2.1.f 1
      have z2 := HS.out.2.2.1.c 2 (x := .int .i64 0) rfl
      have zf2 := HS.out.2.2.1.f 2
      have z3 := HS.out.2.2.1.c 3 (x := .int .i64 0) rfl
      have zf3 := HS.out.2.2.1.f 3
      have z4 := HS.out.2.2.1.c 4 (x := .int .i64 0) rfl
      have zf4 := HS.out.2.2.1.f 4
      have z5 := HS.out.2.2.1.c 5 (x := .int .i64 0) rfl
      have zf5 := HS.out.2.2.1.f 5
      have z6 := HS.out.2.2.1.c 6 (x := .int .i64 0) rfl
      have zf6 := HS.out.2.2.1.f 6
      go_wp2_with fail
      exact bodyPost_ret (v := .tuple #[.agg #[.int .i64 m, .int .i64 y, .int .i64 l, .int .i64 p, .int .i64 d, .int .i64 o, .int .i64 g], (.slice (some ⟨bb, 0, none⟩) t.length cc)]) (by simp [results, Try.results5, go_sem, z0, z1, z2, z3, z4, z5, z6]) rfl ⟨m, y, l, p, d, o, g, t, bb, cc, rfl, by omega, hle, hmx, ev_own (HA.out.kept (grownBy_trans (grownBy_trans (grownBy_trans (grownBy_trans (grownBy_trans (grownBy_trans (grownBy_set _ _ _ _) (grownBy_set _ _ _ _)) (grownBy_set _ _ _ _)) (grownBy_set _ _ _ _)) (grownBy_set _ _ _ _)) (grownBy_set _ _ _ _)) (grownBy_set _ _ _ _)) HN.out), by repeat (first | with_reducible refine gS ?_ (Nat.le_refl _) _ _ | with_reducible exact grownBy_new H1.out.1 HS.out.2.2.2.2 (by omega))⟩
    · obtain ⟨q, rfl⟩ : ∃ q, j = q + 1 := ⟨j - 1, by omega⟩
      clear h0
      have hnr : u6.ownBlock = none ∨ u6.ownBlock ≠ some (w.heap.size + 1) := by
        by_cases hn : u6.ownBlock = none
        · exact .inl hn
        · refine .inr fun e => ?_
          have := HS.out.1.lt (w.heap.size + 1) e
          omega
      have HN := Lib.hid hnr
      clear hnr
      go_wp2_with fail
      refine (event_draw _ _ HS.out.2.2.2.1).mono ?_
      rintro e w6 ⟨k, n1, a1, f, x, rfl, hg, hr⟩
      have HT := Lib.hid (And.intro (HS.out.1.kept hg HN.out) (And.intro (HS.out.2.1.kept hg (by simp; omega)) (And.intro (HS.out.2.2.1.kept hg (by simp)) (And.intro hr (grownBy_trans HS.out.2.2.2.2 hg)))))
      clear hg hr
      go_wp2_with (at_builtin; refine wpList_append_own _ rfl _ _ 26 rfl (E + 1) 41 i0 _ 5 40 Try.underlying26 hi hz0 hz1 hz2 rfl (by decide) _ _ _ rfl (HT.out.1.alloc _) ⟨w6.heap.size, 0, none⟩ 1 1 [.int .i64 k, .int .i64 n1, .int .i64 a1, .int .i64 f, .int .i64 x] rfl rfl ?c1 ?c2 ?c3 ?c4 ?c5 ?_)
      case c1 => exact five_new w6 _ _ _ _ _ _
      case c2 => simp [Value.oneCell']
      case c3 => unfold maxLen; omega
      case c4 => omega
      case c5 => have := HT.out.2.1.lt; simp; omega
      intro v' wz hown1 hg1 hni
      have hn1 : ∀ b, b < E + 1 → some b ≠ u6.ownBlock := fun b hb e => by have := HT.out.1.lt b e.symm; omega
      have HW := Lib.hid (show DpRel w1 (w.heap.size + 1) (E + 1) E w.heap.size #[.int .i64 m, .int .i64 y, .int .i64 l, .int .i64 p, .int .i64 d, .int .i64 o, .int .i64 g] v' (.int .i64 (q : Nat)) wz from
        ⟨q, t ++ [⟨k, n1, a1, f, x⟩], by simp; omega, rfl, (by
          have e1 : evsV (t ++ [⟨k, n1, a1, f, x⟩]) = evsV t ++ [.int .i64 k, .int .i64 n1, .int .i64 a1, .int .i64 f, .int .i64 x] := by simp [evsV, evL]
          rw [e1, List.length_append, List.length_singleton]
          exact hown1), ((HT.out.2.1.alloc _).kept hg1 (hn1 _ (by omega))), ((HT.out.2.2.1.alloc _).kept hg1 (hn1 _ (by omega))), ((HT.out.2.2.2.1.alloc _).kept hg1 (hn1 _ (by omega)) (fun k e => by have := HT.out.1.lt k e; omega)), grown_row2 (grownBy_trans HT.out.2.2.2.2 (gE (World.grownBy_alloc _ _ none))) hg1 (HT.out.1.alloc _) (by omega), fun e => hni e⟩)
      clear hown1 hg1 hn1 hni hnil
      go_wp2_with fail
      go_roundw
      case rel =>
        have e2 : (.int .i64 ((q : Nat) : Int) : Value) = _ := rfl
        exact HW.out
      case measure => simp [intOf]

end Go.Proofs.Ytklbnpnngfoecaa
