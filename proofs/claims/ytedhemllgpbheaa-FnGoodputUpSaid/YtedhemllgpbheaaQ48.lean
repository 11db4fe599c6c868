/- Vj -/
import Derived.Test.YtedhemllgpbheaaQ47
namespace Go.Proofs.Ytedhemllgpbheaa
open Go.RowKit

set_option maxRecDepth 100000 in
set_option maxHeartbeats 1000000 in
theorem same_ints (a b : Option Addr) (c d : Nat) (l : List Int) (w : World) (h : IAt w a l) (k : IAt w b l) (hl : l.length ≤ 1048576) : Calls Try.prog 9 #[.slice a l.length c, .slice b l.length d] w fun e w' => e = .returned (.bool true) ∧ w.grownBy w' none := by
  have H := Lib.hid (And.intro h k)
  clear h k
  go_enter Try.func9, Try.ntmps9
  go_wp2_with fail
  go_loopw [5] (fun i wr => EqIRel w l.length i wr) (fun i _ => l.length - (intOf i).toNat)
  case atStart => exact ⟨0, Nat.zero_le _, rfl, World.grownBy.refl _ _⟩
  case round =>
    obtain ⟨j, hj, rfl, hg⟩ := hrel
    have HS := Lib.hid hg
    clear hg
    by_cases hlt : j < l.length
    · rcases (H.out.1.kept HS.out) with h0 | ⟨b1, off1, rfl, hb1, hc⟩
      · rw [h0] at hlt
        simp at hlt
      · rcases (H.out.2.kept HS.out) with h0 | ⟨b2, off2, rfl, hb2, hd⟩
        · rw [h0] at hlt
          simp at hlt
        · have c0 := hc j hlt
          have d0 := hd j hlt
          clear hc hd
          generalize l[j] = x at *
          have hlt' : (j : Int) < (l.length : Int) := by omega
          have hj0 : (0 : Int) ≤ (j : Int) := by omega
          go_wp2_with fail
          try (go_quiet (fail); go_wp2_with fail)
          go_roundw
          case rel => exact ⟨j + 1, hlt, by go_num, by first | exact HS.out | exact grownBy_trans HS.out (grownBy_drewN _)⟩
          case measure => simp [intOf]; omega
    · obtain rfl : j = l.length := by omega
      go_wp2_with fail
      go_ret
      exact ⟨rfl, HS.out⟩

theorem goodF_ge : ∀ (l : List No) (m : Int), m ≤ goodF l m
  | [], m => Int.le_refl _
  | x :: l, m => by
    by_cases hc : x.k = 2 ∧ m < x.f
    · have h := goodF_ge l x.f
      simp only [goodF, if_pos hc]
      omega
    · simp only [goodF, if_neg hc]
      exact goodF_ge l m
theorem goodF_app (a b : List No) (m : Int) : goodF (a ++ b) m = goodF b (goodF a m) := by
  induction a generalizing m with
  | nil => rfl
  | cons x a ih => exact ih _
theorem agF_app (a b : List No) : ∀ (i : Nat) (e : Int), ∃ r, agF (a ++ b) i e = agF a i e ++ r := by
  induction a with
  | nil => intro i e; exact ⟨agF b i e, rfl⟩
  | cons x a ih =>
    intro i e
    obtain ⟨r1, h1⟩ := ih (i + 1) (if e < x.f + x.n then x.f + x.n else e)
    obtain ⟨r2, h2⟩ := ih (i + 1) e
    by_cases hk : x.k = 1
    · refine ⟨r1, ?_⟩
      simp only [List.cons_append, agF, if_pos hk]
      rw [h1, List.append_assoc]
    · refine ⟨r2, ?_⟩
      simp only [List.cons_append, agF, if_neg hk]
      exact h2
theorem notes_take {l : List Nt} (h : notesP l) (k : Nat) : notesP (l.take k) := ⟨by rw [List.length_take]; have := h.1; omega, fun x hx => h.2 x (List.mem_of_mem_take hx)⟩
theorem good_up {l : List Nt} (h : notesP l) (k : Nat) : goodN (l.take k) ≤ goodN l := by
  unfold goodN
  rw [if_pos h, if_pos (notes_take h k)]
  have e : mo l = mo (l.take k) ++ mo (l.drop k) := by unfold mo; rw [← List.map_append, List.take_append_drop]
  unfold good
  rw [e, goodF_app]
  exact goodF_ge _ _
theorem again_up {l : List Nt} (h : notesP l) (k : Nat) : ∃ r, againN l = againN (l.take k) ++ r := by
  unfold againN
  rw [if_pos h, if_pos (notes_take h k)]
  have e : mo l = mo (l.take k) ++ mo (l.drop k) := by unfold mo; rw [← List.map_append, List.take_append_drop]
  unfold again
  rw [e]
  exact agF_app _ _ _ _
theorem nt_take {w : World} {a : Option Addr} {l : List Nt} (h : NtAt w a l) (k : Nat) : NtAt w a (l.take k) := by
  rcases h with h0 | ⟨b, off, h1, h2, h3⟩
  · exact .inl (by rw [h0]; simp)
  · exact .inr ⟨b, off, h1, h2, fun i hi => by rw [List.getElem_take]; exact h3 i (by rw [List.length_take] at hi; omega)⟩
theorem i_take {w : World} {a : Option Addr} {l b r : List Int} (h : IAt w a l) (e : l = b ++ r) : IAt w a b := by
  subst e
  rcases h with h0 | ⟨g, off, h1, h2, h3⟩
  · exact .inl (List.append_eq_nil_iff.mp h0).1
  · refine .inr ⟨g, off, h1, h2, fun i hi => ?_⟩
    have q := h3 i (by rw [List.length_append]; omega)
    rwa [List.getElem_append_left hi] at q
end Go.Proofs.Ytedhemllgpbheaa

