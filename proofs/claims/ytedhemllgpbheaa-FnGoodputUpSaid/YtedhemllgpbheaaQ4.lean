/- Nt NtOk -/
import Derived.Test.YtedhemllgpbheaaQ3
import Derived.Deep.RegionHeld3
import Derived.Deep.Slices
import Derived.Laws.IdiomStrings
import Derived.Lib.AppendZeros
import Derived.Laws.AppendOwnNone
import Derived.Deep.AppendLies
import Derived.Deep.QuietTactic
import Derived.BigQuiet
import Derived.IntWalk
namespace Go.Proofs.Ytedhemllgpbheaa
open Go.RowKit Go.ChangeShapes Go.WideShapes

/-- A note in memory: its three numbers, and where its ranges lie. -/
structure Nt where
  k : Int
  f : Int
  n : Int
  a : Option Addr
  c : Nat
  l : List Rg
/-- What a note says. -/
structure No where
  k : Int
  f : Int
  n : Int
  l : List Rg
def Nt.o (x : Nt) : No := ⟨x.k, x.f, x.n, x.l⟩
def NtC (w : World) (b o : Nat) (p : Nt) : Prop := w.cell? ⟨b, o, none⟩ = some (.int .i64 p.k) ∧ w.cell? ⟨b, o + 1, none⟩ = some (.int .i64 p.f) ∧ w.cell? ⟨b, o + 2, none⟩ = some (.int .i64 p.n) ∧ w.cell? ⟨b, o + 3, none⟩ = some (.slice p.a p.l.length p.c)
def NtAt (w : World) (a : Option Addr) (t : List Nt) : Prop :=
  t = [] ∨ ∃ b off, a = some ⟨b, off, none⟩ ∧ b < w.heap.size ∧ ∀ i (h : i < t.length), NtC w b (off + i * 4) t[i] ∧ RgAt w (t[i]).a (t[i]).l
theorem NtC.kept {w w' : World} {b o : Nat} {p : Nt} (h : NtC w b o p) (hg : w.grownBy w' none) : NtC w' b o p :=
  ⟨hg.cell h.1 (by simp), hg.cell h.2.1 (by simp), hg.cell h.2.2.1 (by simp), hg.cell h.2.2.2 (by simp)⟩
theorem NtAt.kept {w w' : World} {a : Option Addr} {t : List Nt} (h : NtAt w a t) (hg : w.grownBy w' none) : NtAt w' a t := by
  rcases h with h | ⟨b, off, ha, hb, hc⟩
  · exact .inl h
  · exact .inr ⟨b, off, ha, Nat.lt_of_lt_of_le hb hg.size, fun i hi => ⟨(hc i hi).1.kept hg, (hc i hi).2.kept hg⟩⟩
theorem o_len {t u : List Nt} (h : t.map Nt.o = u.map Nt.o) : t.length = u.length := by simpa using congrArg List.length h
section
variable {H : Type} {enc : TypeId × Value → H} {P : Program} {w : World} {base : Nat} {spare : Nat → Bool} {held : Bool}
end

def ntL (p : Nt) : List Value := [.int .i64 p.k, .int .i64 p.f, .int .i64 p.n, .slice p.a p.l.length p.c]
def ntsV (l : List Nt) : List Value := l.flatMap ntL
theorem ntsV_len : ∀ l : List Nt, (ntsV l).length = l.length * 4
  | [] => rfl
  | p :: l => by
    have := ntsV_len l
    simp only [ntsV, List.flatMap_cons, List.length_append, List.length_cons] at this ⊢
    rw [this]
    simp [ntL]
    omega
theorem ntsV_get : ∀ (l : List Nt) (i : Nat) (h : i < l.length), (ntsV l)[i * 4]? = some (.int .i64 (l[i]).k) ∧ (ntsV l)[i * 4 + 1]? = some (.int .i64 (l[i]).f) ∧ (ntsV l)[i * 4 + 2]? = some (.int .i64 (l[i]).n) ∧ (ntsV l)[i * 4 + 3]? = some (.slice (l[i]).a (l[i]).l.length (l[i]).c)
  | p :: l, 0, _ => by simp [ntsV, ntL]
  | p :: l, i + 1, h => by
    have a := ntsV_get l i (by simpa using h)
    have e : ntsV (p :: l) = .int .i64 p.k :: .int .i64 p.f :: .int .i64 p.n :: .slice p.a p.l.length p.c :: ntsV l := rfl
    rw [e, show (i + 1) * 4 = i * 4 + 1 + 1 + 1 + 1 from by omega]
    simpa using a
theorem infoNt : (Try.prog.info? 33).map (fun i => (i.zero, i.size, i.bytes)) = some (some (.agg #[.int .i64 0, .int .i64 0, .int .i64 0, .slice none 0 0]), 4, 48) := by kernel_rfl

end Go.Proofs.Ytedhemllgpbheaa

namespace Go.Proofs.Ytedhemllgpbheaa
open Go.RowKit

def skP (x : Rg) : Prop := 0 ≤ x.1 ∧ x.1 < x.2 ∧ x.2 ≤ 20000
instance (x : Rg) : Decidable (skP x) := by unfold skP; infer_instance
def toldP (l : List Rg) : Prop := l.length ≤ 3 ∧ ∀ x ∈ l, skP x
instance (l : List Rg) : Decidable (toldP l) := by unfold toldP; infer_instance
def noteP (k f n : Int) (l : List Rg) : Prop := (k = 1 ∧ 0 ≤ f ∧ f ≤ 10000 ∧ 1 ≤ n ∧ n ≤ 200 ∧ l = []) ∨ (k = 2 ∧ 0 ≤ f ∧ f ≤ 20000 ∧ n = 0 ∧ toldP l)
instance (k f n : Int) (l : List Rg) : Decidable (noteP k f n l) := by unfold noteP; infer_instance
def No.ok (x : No) : Prop := noteP x.k x.f x.n x.l
instance (x : No) : Decidable x.ok := by unfold No.ok; infer_instance
def notesP (t : List Nt) : Prop := t.length ≤ 300 ∧ ∀ x ∈ t, (x.o).ok
instance (t : List Nt) : Decidable (notesP t) := by unfold notesP; infer_instance
def SkRel (w : World) (l : List Rg) (i : Value) (wr : World) : Prop :=
  ∃ j : Nat, j ≤ l.length ∧ i = .int .i64 j ∧ w.grownBy wr none ∧ ∀ x ∈ l.take j, skP x

set_option maxRecDepth 100000 in
set_option maxHeartbeats 1000000 in
theorem told_any (a : Option Addr) (c : Nat) (l : List Rg) (w : World) (h : RgAt w a l) : Calls Try.prog 27 #[.slice a l.length c] w fun e w' => e = .returned (.bool (decide (toldP l))) ∧ w.grownBy w' none := by
  have H := Lib.hid h
  clear h
  by_cases h3 : 3 < l.length
  · go_enter Try.func27, Try.ntmps27
    go_wp2_with fail
    go_ret
    exact ⟨ret_b (decide_eq_false (fun h => by have := h.1; omega)).symm, World.grownBy.refl _ _⟩
  · go_enter Try.func27, Try.ntmps27
    go_wp2_with fail
    go_loopw [10] (fun i wr => SkRel w l i wr) (fun i _ => l.length - (intOf i).toNat)
    case atStart => exact ⟨0, Nat.zero_le _, rfl, World.grownBy.refl _ _, by simp⟩
    case round =>
      obtain ⟨j, hj, rfl, hg, hall⟩ := hrel
      have HS := Lib.hid (And.intro hg hall)
      clear hg hall
      by_cases hlt : j < l.length
      · rcases (H.out.kept HS.out.1) with h0 | ⟨b, off, rfl, hb, hc⟩
        · rw [h0] at hlt
          simp at hlt
        · obtain ⟨c0, c1⟩ := hc j hlt
          clear hc
          generalize hx : l[j] = x at *
          have HX := Lib.hid hx
          clear hx
          obtain ⟨u, v⟩ := x
          have hlt' : (j : Int) < (l.length : Int) := by omega
          have HN := Lib.hid (fun (h : ¬ skP (u, v)) => show ¬ toldP l from fun hh => h (by have hm := hh.2 l[j] (List.getElem_mem hlt); rw [HX.out] at hm; exact hm))
          by_cases g1 : u < 0
          · go_wp2_with fail
            go_ret
            exact ⟨ret_b (decide_eq_false (HN.out (fun h => by have h1 := h.1; have h2 := h.2.1; have h3 := h.2.2; dsimp only at h1 h2 h3; omega))).symm, grownBy_trans HS.out.1 (World.grownBy_alloc _ _ _)⟩
          · by_cases g2 : v ≤ u
            · go_wp2_with fail
              go_ret
              exact ⟨ret_b (decide_eq_false (HN.out (fun h => by have h1 := h.1; have h2 := h.2.1; have h3 := h.2.2; dsimp only at h1 h2 h3; omega))).symm, grownBy_trans HS.out.1 (World.grownBy_alloc _ _ _)⟩
            · by_cases g3 : 20000 < v
              · go_wp2_with fail
                go_ret
                exact ⟨ret_b (decide_eq_false (HN.out (fun h => by have h1 := h.1; have h2 := h.2.1; have h3 := h.2.2; dsimp only at h1 h2 h3; omega))).symm, grownBy_trans HS.out.1 (World.grownBy_alloc _ _ _)⟩
              · have HO := Lib.hid (show skP l[j] by rw [HX.out]; exact ⟨by dsimp only; omega, by dsimp only; omega, by dsimp only; omega⟩)
                go_wp2_with fail
                go_roundw
                case rel => exact ⟨j + 1, hlt, by go_num, grownBy_trans HS.out.1 (World.grownBy_alloc _ _ _), all_next l j hlt HS.out.2 HO.out⟩
                case measure => simp [intOf]; omega
      · obtain rfl : j = l.length := by omega
        go_wp2_with fail
        go_ret
        refine ⟨ret_b (decide_eq_true ⟨by omega, fun x hx => HS.out.2 x (by rw [List.take_length]; exact hx)⟩).symm, HS.out.1⟩

theorem no_not {k f n : Int} {l : List Rg} (h : ¬ noteP k f n l) : false = decide (noteP k f n l) := (decide_eq_false h).symm
theorem no_yes {k f n : Int} {l : List Rg} (h : noteP k f n l) : true = decide (noteP k f n l) := (decide_eq_true h).symm

theorem gD {w W : World} (h : w.grownBy W none) (k : Nat) : w.grownBy (W.drewN k) none := grownBy_trans h (grownBy_drewN k)
set_option maxRecDepth 100000 in
set_option maxHeartbeats 2000000 in
theorem note_I (k f n : Int) (a : Option Addr) (c : Nat) (l : List Rg) (w : World) (h : RgAt w a l) : Calls Try.prog 20 #[.agg #[.int .i64 k, .int .i64 f, .int .i64 n, .slice a l.length c]] w fun e w' => e = .returned (.bool (decide (noteP k f n l))) ∧ w.grownBy w' none := by
  by_cases k1 : k = 1
  · subst k1
    by_cases g1 : f < 0
    · go_enter Try.func20, Try.ntmps20
      go_wp2_with fail
      go_ret
      exact ⟨ret_b (no_not (by unfold noteP; omega)), World.grownBy_alloc _ _ _⟩
    · by_cases g2 : 10000 < f
      · go_enter Try.func20, Try.ntmps20
        go_wp2_with fail
        go_ret
        exact ⟨ret_b (no_not (by unfold noteP; omega)), World.grownBy_alloc _ _ _⟩
      · by_cases g3 : n < 1
        · go_enter Try.func20, Try.ntmps20
          go_wp2_with fail
          go_ret
          exact ⟨ret_b (no_not (by unfold noteP; omega)), World.grownBy_alloc _ _ _⟩
        · by_cases g4 : 200 < n
          · go_enter Try.func20, Try.ntmps20
            go_wp2_with fail
            go_ret
            exact ⟨ret_b (no_not (by unfold noteP; omega)), World.grownBy_alloc _ _ _⟩
          · by_cases g5 : l = []
            · subst g5
              go_enter Try.func20, Try.ntmps20
              go_wp2_with fail
              go_ret
              exact ⟨ret_b (no_yes (by unfold noteP; exact .inl ⟨rfl, by omega, by omega, by omega, by omega, rfl⟩)), World.grownBy_alloc _ _ _⟩
            · have g6 : ¬ l.length = 0 := fun h => g5 (List.length_eq_zero_iff.mp h)
              have g7 : ((l.length : Int) == 0) = false := by simpa using g6
              have HN := Lib.hid g5
              clear g5
              go_enter Try.func20, Try.ntmps20
              go_wp2_with fail
              go_ret
              exact ⟨ret_b (no_not (by unfold noteP; exact fun h => h.elim (fun h => HN.out h.2.2.2.2.2) (fun h => by omega))), World.grownBy_alloc _ _ _⟩
  · by_cases k2 : k = 2
    · subst k2
      by_cases g1 : f < 0
      · go_enter Try.func20, Try.ntmps20
        go_wp2_with fail
        go_ret
        exact ⟨ret_b (no_not (by unfold noteP; omega)), World.grownBy_alloc _ _ _⟩
      · by_cases g2 : 20000 < f
        · go_enter Try.func20, Try.ntmps20
          go_wp2_with fail
          go_ret
          exact ⟨ret_b (no_not (by unfold noteP; omega)), World.grownBy_alloc _ _ _⟩
        · by_cases g3 : n = 0
          · subst g3
            have H := Lib.hid (h.kept (World.grownBy_alloc w (.cells #[.int .i64 2, .int .i64 f, .int .i64 0, .slice a l.length c] 33) none))
            clear h
            go_enter Try.func20, Try.ntmps20
            go_wp2_with fail
            refine (told_any _ _ _ _ H.out).mono ?_
            rintro e w2 ⟨rfl, hg⟩
            have HG := Lib.hid (grownBy_trans (World.grownBy_alloc w (.cells #[.int .i64 2, .int .i64 f, .int .i64 0, .slice a l.length c] 33) none) hg)
            clear hg
            obtain ⟨b, hb⟩ : ∃ b, b = decide (toldP l) := ⟨_, rfl⟩
            rw [← hb]
            have HB := Lib.hid hb
            clear hb
            go_wp2_with fail
            go_ret
            refine ⟨ret_b ?_, HG.out⟩
            rw [HB.out]
            refine decide_eq_decide.2 ⟨fun h => .inr ⟨rfl, by omega, by omega, rfl, h⟩, fun h => h.elim (fun h => by omega) (fun h => h.2.2.2.2)⟩
          · have g4 : (n == 0) = false := by simpa using g3
            go_enter Try.func20, Try.ntmps20
            go_wp2_with fail
            go_ret
            exact ⟨ret_b (no_not (by unfold noteP; omega)), World.grownBy_alloc _ _ _⟩
    · have g1 : (k == 1) = false := by simpa using k1
      have g2 : (k == 2) = false := by simpa using k2
      go_enter Try.func20, Try.ntmps20
      go_wp2_with fail
      go_ret
      exact ⟨ret_b (no_not (by unfold noteP; omega)), World.grownBy_alloc _ _ _⟩

def NkRel (w : World) (t : List Nt) (i : Value) (wr : World) : Prop :=
  ∃ j : Nat, j ≤ t.length ∧ i = .int .i64 j ∧ w.grownBy wr none ∧ ∀ x ∈ t.take j, (x.o).ok

set_option maxRecDepth 100000 in
set_option maxHeartbeats 1000000 in
theorem notes_I (ao : Option Addr) (c : Nat) (t : List Nt) (w : World) (h : NtAt w ao t) : Calls Try.prog 13 #[.slice ao t.length c] w fun e w' => e = .returned (.bool (decide (notesP t))) ∧ w.grownBy w' none := by
  have H := Lib.hid h
  clear h
  by_cases h3 : 300 < t.length
  · go_enter Try.func13, Try.ntmps13
    go_wp2_with fail
    go_ret
    exact ⟨ret_b (decide_eq_false (fun h => by have := h.1; omega)).symm, World.grownBy.refl _ _⟩
  · go_enter Try.func13, Try.ntmps13
    go_wp2_with fail
    go_loopw [10] (fun i wr => NkRel w t i wr) (fun i _ => t.length - (intOf i).toNat)
    case atStart => exact ⟨0, Nat.zero_le _, rfl, World.grownBy.refl _ _, by simp⟩
    case round =>
      obtain ⟨j, hj, rfl, hg, hall⟩ := hrel
      have HS := Lib.hid (And.intro hg hall)
      clear hg hall
      by_cases hlt : j < t.length
      · rcases (H.out.kept HS.out.1) with h0 | ⟨b, off, rfl, hb, hc⟩
        · rw [h0] at hlt
          simp at hlt
        · obtain ⟨⟨c0, c1, c2, c3⟩, hrg⟩ := hc j hlt
          clear hc
          generalize hx : t[j] = x at *
          have HX := Lib.hid hx
          clear hx
          obtain ⟨k, f, n, a, yc, l⟩ := x
          dsimp only at c0 c1 c2 c3 hrg
          have HRG := Lib.hid (hrg.kept (World.grownBy_alloc wr (.cells #[.int .i64 k, .int .i64 f, .int .i64 n, .slice a l.length yc] 33) none))
          clear hrg
          have hlt' : (j : Int) < (t.length : Int) := by omega
          by_cases hP : noteP k f n l
          · have HP := Lib.hid hP
            have HY := Lib.hid (decide_eq_true hP)
            clear hP
            go_wp2_with fail
            refine (note_I k f n a yc l _ HRG.out).mono ?_
            rintro e w8 ⟨rfl, hg⟩
            rw [HY.out]
            have HW := Lib.hid (And.intro (grownBy_trans HS.out.1 (grownBy_trans (World.grownBy_alloc wr (.cells #[.int .i64 k, .int .i64 f, .int .i64 n, .slice a l.length yc] 33) none) hg)) (all_next (P := fun x : Nt => (x.o).ok) t j hlt HS.out.2 (by rw [HX.out]; exact HP.out)))
            clear hg c0 c1 c2 c3
            go_wp2_with fail
            go_roundw
            case rel => exact ⟨j + 1, hlt, by go_num, HW.out.1, HW.out.2⟩
            case measure => simp [intOf]; omega
          · have HP := Lib.hid hP
            have HY := Lib.hid (decide_eq_false hP)
            clear hP
            go_wp2_with fail
            refine (note_I k f n a yc l _ HRG.out).mono ?_
            rintro e w8 ⟨rfl, hg⟩
            rw [HY.out]
            have HW := Lib.hid (grownBy_trans HS.out.1 (grownBy_trans (World.grownBy_alloc wr (.cells #[.int .i64 k, .int .i64 f, .int .i64 n, .slice a l.length yc] 33) none) hg))
            clear hg c0 c1 c2 c3
            go_wp2_with fail
            go_ret
            exact ⟨ret_b (decide_eq_false (fun hh => HP.out (by have hm := hh.2 t[j] (List.getElem_mem hlt); rw [HX.out] at hm; exact hm))).symm, HW.out⟩
      · obtain rfl : j = t.length := by omega
        go_wp2_with fail
        go_ret
        refine ⟨ret_b (decide_eq_true ⟨by omega, fun x hx => HS.out.2 x (by rw [List.take_length]; exact hx)⟩).symm, HS.out.1⟩

theorem in_qb {n a b : Int} {x : Bool} (h : inB n a b = x) (w : World) (m : Nat) : Calls Try.prog 21 #[.int .i64 n, .int .i64 a, .int .i64 b] (w.drewN m) fun e w'' => e = .returned (.bool x) ∧ ∃ k, w'' = w.drewN k :=
  (in_any n a b (w.drewN m)).mono fun _ _ ⟨he, hw⟩ => ⟨by rw [he, h], m, hw.symm⟩

set_option maxRecDepth 100000 in
set_option maxHeartbeats 2000000 in
theorem note_S (k f n : Int) (a : Option Addr) (c : Nat) (l : List Rg) (w : World) (h : RgAt w a l) (hl : l.length ≤ 1048576) : Calls Try.prog 14 #[.agg #[.int .i64 k, .int .i64 f, .int .i64 n, .slice a l.length c]] w fun e w' => e = .returned (.bool (decide (noteP k f n l))) ∧ w.grownBy w' none := by
  obtain ⟨W1, hW⟩ : ∃ W1, W1 = w.alloc (.cells #[.int .i64 k, .int .i64 f, .int .i64 n, .slice a l.length c] 33) := ⟨_, rfl⟩
  have hA : w.grownBy W1 none := by rw [hW]; exact World.grownBy_alloc _ _ _
  have u0 : W1.cell? ⟨w.heap.size, 0, none⟩ = some (.int .i64 k) := by rw [hW]; go_simp
  have u1 : W1.cell? ⟨w.heap.size, 1, none⟩ = some (.int .i64 f) := by rw [hW]; go_simp
  have u2 : W1.cell? ⟨w.heap.size, 2, none⟩ = some (.int .i64 n) := by rw [hW]; go_simp
  have u3 : W1.cell? ⟨w.heap.size, 3, none⟩ = some (.slice a l.length c) := by rw [hW]; go_simp
  have HU := Lib.hid (And.intro u0 (And.intro u1 (And.intro u2 (And.intro u3 hW))))
  have H := Lib.hid (And.intro (h.kept hA) hA)
  clear h hA u0 u1 u2 u3 hW
  go_enter Try.func14, Try.ntmps14
  go_wp2_with fail
  rw [← HU.out.2.2.2.2]
  go_loopw [3] (fun i wr => SkRel W1 l i wr) (fun i _ => l.length - (intOf i).toNat)
  case atStart => exact ⟨0, Nat.zero_le _, rfl, World.grownBy.refl _ _, by simp⟩
  case round =>
    obtain ⟨j, hj, rfl, hg, hall⟩ := hrel
    have u0 := hg.cell HU.out.1 (by simp)
    have u1 := hg.cell HU.out.2.1 (by simp)
    have u2 := hg.cell HU.out.2.2.1 (by simp)
    have u3 := hg.cell HU.out.2.2.2.1 (by simp)
    by_cases hlt : j < l.length
    · have HK := Lib.hid (H.out.1.kept hg)
      have HS := Lib.hid (And.intro (grownBy_trans H.out.2 hg) (And.intro hall hg))
      clear hg hall
      rcases HK.out with h0 | ⟨b', off, rfl, hb, hc⟩
      · rw [h0] at hlt
        simp at hlt
      · obtain ⟨c0, c1⟩ := hc j hlt
        clear hc
        generalize hx : l[j] = x at *
        have HX := Lib.hid hx
        clear hx
        obtain ⟨u, v⟩ := x
        have hlt' : (j : Int) < (l.length : Int) := by omega
        have hj0 : (0 : Int) ≤ (j : Int) := by omega
        have HN := Lib.hid (fun (h : ¬ skP (u, v)) => show ¬ noteP k f n l from fun hh => h (by
          rcases hh with h1 | h1
          · rw [h1.2.2.2.2.2] at hlt; simp at hlt
          · have hm := h1.2.2.2.2.2 l[j] (List.getElem_mem hlt)
            rw [HX.out] at hm
            exact hm))
        cases g1 : inB u 0 20000
        · have G1 := Lib.hid g1
          have g1 := in_not g1
          go_wp2_with fail
          go_quiet ((go_at_call 21; with_reducible exact in_qb G1.out _ _))
          go_wp2_with fail
          go_ret
          exact ⟨ret_b (no_not (HN.out (fun h => by have h1 := h.1; have h2 := h.2.1; have h3 := h.2.2; dsimp only at h1 h2 h3; omega))), gD HS.out.1 _⟩
        · have G1 := Lib.hid g1
          have g1 := in_of g1
          have s1 : IntKind.i64.wrap (u + 1) = u + 1 := IntWalk.i64_in _ (by omega)
          cases g2 : inB v (u + 1) 20000
          · have G2 := Lib.hid g2
            have g2 := in_not g2
            go_wp2_with fail
            go_quiet ((go_at_call 21; first | with_reducible exact in_qb G1.out _ _ | with_reducible exact in_qb G2.out _ _))
            go_wp2_with fail
            go_ret
            exact ⟨ret_b (no_not (HN.out (fun h => by have h1 := h.1; have h2 := h.2.1; have h3 := h.2.2; dsimp only at h1 h2 h3; omega))), gD HS.out.1 _⟩
          · have G2 := Lib.hid g2
            have g2 := in_of g2
            have HO := Lib.hid (show skP l[j] by rw [HX.out]; exact ⟨by dsimp only; omega, by dsimp only; omega, by dsimp only; omega⟩)
            go_wp2_with fail
            go_quiet ((go_at_call 21; first | with_reducible exact in_qb G1.out _ _ | with_reducible exact in_qb G2.out _ _))
            go_wp2_with fail
            go_roundw
            case rel => exact ⟨j + 1, hlt, by go_num, gD HS.out.2.2 _, all_next l j hlt HS.out.2.1 HO.out⟩
            case measure => simp [intOf]; omega
    · obtain rfl : j = l.length := by omega
      rw [List.take_length] at hall
      have HS := Lib.hid (And.intro (grownBy_trans H.out.2 hg) hall)
      clear hg hall
      by_cases k1 : k = 1
      · subst k1
        cases g1 : inB f 0 10000
        · have G1 := Lib.hid g1
          have g1 := in_not g1
          go_wp2_with (go_at_call 21; refine (in_any _ _ _ _).mono ?_; rintro e w2 ⟨rfl, rfl⟩; first | rw [G1.out])
          go_ret
          exact ⟨ret_b (no_not (by unfold noteP; omega)), HS.out.1⟩
        · have G1 := Lib.hid g1
          have g1 := in_of g1
          cases g2 : inB n 1 200
          · have G2 := Lib.hid g2
            have g2 := in_not g2
            go_wp2_with (go_at_call 21; refine (in_any _ _ _ _).mono ?_; rintro e w2 ⟨rfl, rfl⟩; first | rw [G1.out] | rw [G2.out])
            go_ret
            exact ⟨ret_b (no_not (by unfold noteP; omega)), HS.out.1⟩
          · have G2 := Lib.hid g2
            have g2 := in_of g2
            by_cases g5 : l = []
            · have HE := Lib.hid g5
              have g6 : l.length = 0 := by rw [g5]; rfl
              clear g5
              go_wp2_with (go_at_call 21; refine (in_any _ _ _ _).mono ?_; rintro e w2 ⟨rfl, rfl⟩; first | rw [G1.out] | rw [G2.out])
              go_ret
              exact ⟨ret_b (no_yes (by unfold noteP; exact .inl ⟨rfl, by omega, by omega, by omega, by omega, HE.out⟩)), HS.out.1⟩
            · have g6 : ¬ l.length = 0 := fun h => g5 (List.length_eq_zero_iff.mp h)
              have g7 : ((l.length : Int) == 0) = false := by simpa using g6
              have HN := Lib.hid g5
              clear g5
              go_wp2_with (go_at_call 21; refine (in_any _ _ _ _).mono ?_; rintro e w2 ⟨rfl, rfl⟩; first | rw [G1.out] | rw [G2.out])
              go_ret
              exact ⟨ret_b (no_not (by unfold noteP; exact fun h => h.elim (fun h => HN.out h.2.2.2.2.2) (fun h => by omega))), HS.out.1⟩
      · by_cases k2 : k = 2
        · subst k2
          cases g1 : inB f 0 20000
          · have G1 := Lib.hid g1
            have g1 := in_not g1
            go_wp2_with (go_at_call 21; refine (in_any _ _ _ _).mono ?_; rintro e w2 ⟨rfl, rfl⟩; first | rw [G1.out])
            go_ret
            exact ⟨ret_b (no_not (by unfold noteP; omega)), HS.out.1⟩
          · have G1 := Lib.hid g1
            have g1 := in_of g1
            by_cases g3 : n = 0
            · subst g3
              go_wp2_with (go_at_call 21; refine (in_any _ _ _ _).mono ?_; rintro e w2 ⟨rfl, rfl⟩; rw [G1.out])
              go_ret
              exact ⟨ret_b (decide_eq_decide.2 ⟨fun h => .inr ⟨rfl, by omega, by omega, rfl, by omega, HS.out.2⟩, fun h => h.elim (fun h => by omega) (fun h => by have := h.2.2.2.2.1; omega)⟩), HS.out.1⟩
            · have g4 : (n == 0) = false := by simpa using g3
              go_wp2_with (go_at_call 21; refine (in_any _ _ _ _).mono ?_; rintro e w2 ⟨rfl, rfl⟩; first | rw [G1.out])
              go_ret
              exact ⟨ret_b (no_not (by unfold noteP; omega)), HS.out.1⟩
        · have g1 : (k == 1) = false := by simpa using k1
          have g2 : (k == 2) = false := by simpa using k2
          go_wp2_with fail
          go_ret
          exact ⟨ret_b (no_not (by unfold noteP; omega)), HS.out.1⟩

set_option maxRecDepth 100000 in
set_option maxHeartbeats 1000000 in
theorem notes_S (ao : Option Addr) (c : Nat) (t : List Nt) (w : World) (h : NtAt w ao t) (ht : t.length ≤ 1048576) (hm : ∀ x ∈ t, x.l.length ≤ 1048576) : Calls Try.prog 11 #[.slice ao t.length c] w fun e w' => e = .returned (.bool (decide (notesP t))) ∧ w.grownBy w' none := by
  have H := Lib.hid (And.intro h hm)
  clear h hm
  go_enter Try.func11, Try.ntmps11
  go_wp2_with fail
  go_loopw [3] (fun i wr => NkRel w t i wr) (fun i _ => t.length - (intOf i).toNat)
  case atStart => exact ⟨0, Nat.zero_le _, rfl, World.grownBy.refl _ _, by simp⟩
  case round =>
    obtain ⟨j, hj, rfl, hg, hall⟩ := hrel
    have HS := Lib.hid (And.intro hg hall)
    clear hg hall
    by_cases hlt : j < t.length
    · rcases (H.out.1.kept HS.out.1) with h0 | ⟨b, off, rfl, hb, hc⟩
      · rw [h0] at hlt
        simp at hlt
      · obtain ⟨⟨c0, c1, c2, c3⟩, hrg⟩ := hc j hlt
        have hlm := H.out.2 _ (List.getElem_mem hlt)
        clear hc
        generalize hx : t[j] = x at *
        have HX := Lib.hid hx
        clear hx
        obtain ⟨k, f, n, a, yc, l⟩ := x
        dsimp only at c0 c1 c2 c3 hrg hlm
        have HRG := Lib.hid hrg
        clear hrg
        have hlt' : (j : Int) < (t.length : Int) := by omega
        by_cases hP : noteP k f n l
        · have HP := Lib.hid hP
          have HY := Lib.hid (decide_eq_true hP)
          clear hP
          go_wp2_with fail
          refine (note_S k f n a yc l _ HRG.out hlm).mono ?_
          rintro e w8 ⟨rfl, hg⟩
          rw [HY.out]
          have HW := Lib.hid (And.intro (grownBy_trans HS.out.1 hg) (all_next (P := fun x : Nt => (x.o).ok) t j hlt HS.out.2 (by rw [HX.out]; exact HP.out)))
          clear hg c0 c1 c2 c3
          go_wp2_with fail
          go_roundw
          case rel => exact ⟨j + 1, hlt, by go_num, HW.out.1, HW.out.2⟩
          case measure => simp [intOf]; omega
        · have HP := Lib.hid hP
          have HY := Lib.hid (decide_eq_false hP)
          clear hP
          go_wp2_with fail
          refine (note_S k f n a yc l _ HRG.out hlm).mono ?_
          rintro e w8 ⟨rfl, hg⟩
          rw [HY.out]
          have HW := Lib.hid (grownBy_trans HS.out.1 hg)
          clear hg c0 c1 c2 c3
          go_wp2_with fail
          go_ret
          exact ⟨ret_b (decide_eq_false (fun hh => HP.out (by have hm := hh.2 t[j] (List.getElem_mem hlt); rw [HX.out] at hm; exact hm))).symm, HW.out⟩
    · obtain rfl : j = t.length := by omega
      have HA := Lib.hid (show ∀ x ∈ t, (x.o).ok from fun x hx => HS.out.2 x (by rw [List.take_length]; exact hx))
      go_wp2_with fail
      go_ret
      exact ⟨ret_b (decide_eq_decide.2 ⟨fun h => ⟨by omega, HA.out⟩, fun h => by have := h.1; omega⟩), HS.out.1⟩

end Go.Proofs.Ytedhemllgpbheaa

