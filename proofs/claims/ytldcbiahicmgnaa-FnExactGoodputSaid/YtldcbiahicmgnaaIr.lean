/- Rows of ints as owned memory: whether two rows are the same, marks; a frame that leaves out blocks between two numbers. -/
import Derived.Test.YtldcbiahicmgnaaBr
namespace Go.Proofs.Ytldcbiahicmgnaa
open Go.RowKit

def isV (l : List Int) : List Value := l.map (Value.int .i64)
theorem isV_len (l : List Int) : (isV l).length = l.length := by simp [isV]
theorem isV_get (l : List Int) (i : Nat) (h : i < l.length) : (isV l)[i]? = some (.int .i64 l[i]) := by simp [isV, h]
theorem isV_snoc (l : List Int) (x : Int) : isV (l ++ [x]) = isV l ++ [.int .i64 x] := by simp [isV]
def IAt (w : World) (a : Option Addr) (l : List Int) : Prop :=
  l = [] ∨ ∃ b off, a = some ⟨b, off, none⟩ ∧ b < w.heap.size ∧ ∀ i (h : i < l.length), w.cell? ⟨b, off + i, none⟩ = some (.int .i64 l[i])
theorem IAt.kept {w w' : World} {a : Option Addr} {l : List Int} (h : IAt w a l) (hg : w.grownBy w' none) : IAt w' a l := by
  rcases h with h | ⟨b, off, ha, hb, hc⟩
  · exact .inl h
  · exact .inr ⟨b, off, ha, Nat.lt_of_lt_of_le hb hg.size, fun i hi => hg.cell (hc i hi) (by simp)⟩
abbrev OwnI (w : World) (base : Nat) (a : Option Addr) (c : Nat) (l : List Int) : Prop := w.ownsRow base 2 1 (.slice a l.length c) l.length (isV l)
theorem i_own {w : World} {base : Nat} {a : Option Addr} {c : Nat} {l : List Int} (h : OwnI w base a c l) : IAt w a l := by
  rcases h.2 with ⟨_, h0⟩ | ⟨g, cap', cur, hv, _⟩
  · exact .inl (List.length_eq_zero_iff.mp h0)
  · simp at hv
    obtain ⟨rfl, rfl⟩ := hv
    refine .inr ⟨g, 0, rfl, (World.ownsRow.lt h g rfl).2, fun i hi => ?_⟩
    rw [Nat.zero_add, World.ownsRow.cellAt h i (by omega)]
    exact isV_get l i hi

structure MidBy (w w' : World) (lo hi : Nat) : Prop where
  os : w'.os = w.os
  tape : w'.tape = w.tape
  output : w'.output = w.output
  size : w.heap.size ≤ w'.heap.size
  block : ∀ k, k < w.heap.size → (k < lo ∨ hi ≤ k) → w'.heap[k]? = w.heap[k]?
theorem MidBy.refl (w : World) (lo hi : Nat) : MidBy w w lo hi := ⟨rfl, rfl, rfl, Nat.le_refl _, fun _ _ _ => rfl⟩
theorem MidBy.trans {a b c : World} {lo hi : Nat} (h : MidBy a b lo hi) (k : MidBy b c lo hi) : MidBy a c lo hi :=
  ⟨k.os.trans h.os, k.tape.trans h.tape, k.output.trans h.output, Nat.le_trans h.size k.size, fun i hi ho => (k.block i (Nat.lt_of_lt_of_le hi h.size) ho).trans (h.block i hi ho)⟩
theorem MidBy.free {w w' : World} (h : w.grownBy w' none) (lo hi : Nat) : MidBy w w' lo hi := ⟨h.os, h.tape, h.output, h.size, fun i hl _ => h.block i hl (by simp)⟩
theorem MidBy.only {w w' : World} {g lo hi : Nat} (h : w.grownBy w' (some g)) (h0 : lo ≤ g) (h1 : g < hi) : MidBy w w' lo hi := ⟨h.os, h.tape, h.output, h.size, fun i hl ho => h.block i hl (by simp; omega)⟩
theorem MidBy.grown {w a b : World} {lo hi : Nat} (h : w.grownBy a none) (k : MidBy a b lo hi) (hl : w.heap.size ≤ lo) : w.grownBy b none :=
  ⟨k.os.trans h.os, k.tape.trans h.tape, k.output.trans h.output, Nat.le_trans h.size k.size, fun i hi _ => (k.block i (Nat.lt_of_lt_of_le hi h.size) (.inl (by omega))).trans (h.block i hi (by simp))⟩
theorem MidBy.own {a b : World} {lo hi B : Nat} {e : TypeId} {v : Value} {n s : Nat} {xs : List Value} (h : a.ownsRow B e s v n xs) (k : MidBy a b lo hi) (hB : hi ≤ B) : b.ownsRow B e s v n xs := by
  rcases h with ⟨h1, h2 | ⟨g, cap, cur, h3, h4, h5, h6⟩⟩
  · exact ⟨h1, .inl h2⟩
  · exact ⟨h1, .inr ⟨g, cap, cur, h3, h4, (k.block g (Array.getElem?_eq_some_iff.1 h5).1 (.inr (by omega))).trans h5, h6⟩⟩

def EqIRel (w : World) (n : Nat) (i : Value) (wr : World) : Prop := ∃ j : Nat, j ≤ n ∧ i = .int .i64 j ∧ w.grownBy wr none

set_option maxRecDepth 100000 in
set_option maxHeartbeats 1000000 in
theorem eq_ints (a b : Option Addr) (c d : Nat) (l : List Int) (w : World) (h : IAt w a l) (k : IAt w b l) (hl : l.length ≤ 1048576) : Calls Try.prog 13 #[.slice a l.length c, .slice b l.length d] w fun e w' => e = .returned (.bool true) ∧ w.grownBy w' none := by
  have H := Lib.hid (And.intro h k)
  clear h k
  go_enter Try.func13, Try.ntmps13
  go_wp2_with fail
  go_loopw [5] (fun i wr => EqIRel w l.length i wr) (fun i _ => l.length - (intOf i).toNat)
  case atStart => exact ⟨0, Nat.zero_le _, rfl, World.grownBy.refl _ _⟩
  case round =>
    obtain ⟨j, hj, rfl, hg⟩ := hrel
    have HS := Lib.hid hg
    clear hg
    by_cases hlt : j < l.length
    · rcases (H.out.1.kept HS.out) with h0 | ⟨b1, off1, rfl, hb1, hc⟩
      · rw [h0] at hlt
        simp at hlt
      · rcases (H.out.2.kept HS.out) with h0 | ⟨b2, off2, rfl, hb2, hd⟩
        · rw [h0] at hlt
          simp at hlt
        · have c0 := hc j hlt
          have d0 := hd j hlt
          clear hc hd
          generalize l[j] = x at *
          have hlt' : (j : Int) < (l.length : Int) := by omega
          have hj0 : (0 : Int) ≤ (j : Int) := by omega
          go_wp2_with fail
          try (go_quiet (fail); go_wp2_with fail)
          go_roundw
          case rel => exact ⟨j + 1, hlt, by go_num, by first | exact HS.out | exact grownBy_trans HS.out (grownBy_drewN _)⟩
          case measure => simp [intOf]; omega
    · obtain rfl : j = l.length := by omega
      go_wp2_with fail
      go_ret
      exact ⟨rfl, HS.out⟩

def mkI (k0 : Int) (n : Nat) : List Int := (List.range n).map fun (i : Nat) => k0 + (i : Int)
theorem mkI_len (k0 : Int) (n : Nat) : (mkI k0 n).length = n := by simp [mkI]
theorem mkI_at (k0 : Int) (n j : Nat) (h : j < (mkI k0 n).length) : (mkI k0 n)[j] = k0 + (j : Int) := by simp [mkI]
theorem is_set (l : List Int) (M : List Value) (j : Nat) (h : j < l.length) (hM : M.length = l.length) :
    (isV (l.take j) ++ M.drop j).set j (.int .i64 l[j]) = isV (l.take (j + 1)) ++ M.drop (j + 1) := by
  have e1 : M.drop j = M[j] :: M.drop (j + 1) := List.drop_eq_getElem_cons (by omega)
  have e2 : (isV (l.take j)).length = j := by rw [isV_len, List.length_take]; omega
  have e3 : isV (l.take (j + 1)) = isV (l.take j) ++ [.int .i64 l[j]] := by rw [List.take_succ_eq_append_getElem h, isV_snoc]
  rw [e1, e3, List.set_append_right _ _ (by omega), e2, Nat.sub_self, List.set_cons_zero]
  simp
def IkRel (w : World) (base g cap n : Nat) (k0 : Int) (l : List Int) (k i : Value) (wr : World) : Prop :=
  ∃ j : Nat, j ≤ n ∧ i = .int .i64 j ∧ k = .int .i64 (k0 + (j : Int)) ∧ w.grownBy wr (some g) ∧ wr.ownsRow base 2 1 (.slice (some ⟨g, 0, none⟩) n cap) n (isV ((mkI k0 n).take j) ++ (isV l).drop j)

set_option maxRecDepth 100000 in
set_option maxHeartbeats 1000000 in
theorem imark_some (k0 : Int) (hk0 : 0 ≤ k0) (hk1 : k0 ≤ 100000000) (base g cap : Nat) (l : List Int) (w : World) (hl : l.length ≤ 1048576) (h : OwnI w base (some ⟨g, 0, none⟩) cap l) :
    Calls Try.prog 15 #[.slice (some ⟨g, 0, none⟩) l.length cap, .int .i64 k0] w fun e w' => e = .returned (.int .i64 (k0 + (l.length : Int))) ∧ w.grownBy w' (some g) ∧ w'.ownsRow base 2 1 (.slice (some ⟨g, 0, none⟩) l.length cap) l.length (isV (mkI k0 l.length)) := by
  have H := Lib.hid h
  clear h
  go_enter Try.func15, Try.ntmps15
  go_wp2_with fail
  go_loopw [1, 5] (fun k i wr => IkRel w base g cap l.length k0 l k i wr) (fun _ i _ => l.length - (intOf i).toNat)
  case atStart => exact ⟨0, Nat.zero_le _, rfl, by simp, World.grownBy.refl _ _, by rw [List.take_zero, List.drop_zero]; exact H.out⟩
  case round =>
    obtain ⟨j, hj, rfl, rfl, hg, hown⟩ := hrel
    have HR := Lib.hid (And.intro hg hown)
    clear hg
    by_cases hlt : j < l.length
    · have hlt' : (j : Int) < (l.length : Int) := by omega
      have hML : (mkI k0 l.length).length = l.length := mkI_len _ _
      have HN := Lib.hid (is_set (mkI k0 l.length) (isV l) j (by omega) (by rw [isV_len, hML]))
      have HAT := Lib.hid (mkI_at k0 l.length j (by omega))
      have hl2 := hown.1
      obtain ⟨y0, d0⟩ : ∃ y, wr.cell? ⟨g, j, none⟩ = some y := by
        rw [hown.cellAt j (by omega)]
        exact ⟨_, List.getElem?_eq_getElem (by omega)⟩
      have f0 := hown.frozenAt j
      have hs1 := hown.stored j (.int .i64 (k0 + (j : Int)))
      have hs3 := hs1.1
      have hne := HN.out
      rw [HAT.out] at hne
      rw [hne] at hs3
      have HW := Lib.hid (And.intro hs3 (grownBy_trans HR.out.1 hs1.2))
      have hq1 : IntKind.i64.wrap (k0 + (j : Int) + 1) = k0 + ((j : Int) + 1) := by rw [IntWalk.i64_in _ (by omega)]; omega
      clear hown hl2 hs1 hs3 hne
      go_wp2_with fail
      go_roundw
      case rel => exact ⟨j + 1, hlt, by go_num, by first | (go_num; done) | (congr 1; omega) | rfl, HW.out.2, HW.out.1⟩
      case measure => simp [intOf]; omega
    · obtain rfl : j = l.length := by omega
      rw [List.take_of_length_le (by rw [mkI_len]; omega), List.drop_eq_nil_of_le (by rw [isV_len]; omega), List.append_nil] at hown
      have HW := Lib.hid (And.intro HR.out.1 hown)
      clear hown
      go_wp2_with fail
      go_ret
      exact ⟨rfl, HW.out.1, HW.out.2⟩

set_option maxRecDepth 100000 in
theorem imark_nil (k0 : Int) (w : World) : Calls Try.prog 15 #[.slice none 0 0, .int .i64 k0] w fun e w' => e = .returned (.int .i64 k0) ∧ w = w' := by
  go_enter Try.func15, Try.ntmps15
  go_wp2_with fail
  refine wp_loop_rounds 1 ?_
  rw [rounds_succ]
  go_wp2_with fail
  go_ret
  exact ⟨rfl, rfl⟩

theorem imark_any (k0 : Int) (hk0 : 0 ≤ k0) (hk1 : k0 ≤ 100000000) (base : Nat) (ao : Option Addr) (cap : Nat) (l : List Int) (w : World) (hl : l.length ≤ 1048576) (h : OwnI w base ao cap l) :
    Calls Try.prog 15 #[.slice ao l.length cap, .int .i64 k0] w fun e w' => e = .returned (.int .i64 (k0 + (l.length : Int))) ∧ w.grownBy w' (Value.ownBlock (.slice ao l.length cap)) ∧ w'.ownsRow base 2 1 (.slice ao l.length cap) l.length (isV (mkI k0 l.length)) := by
  rcases h.2 with ⟨hv, h0⟩ | ⟨g, cap', cur, hv, _⟩
  · have e := List.length_eq_zero_iff.mp h0
    subst e
    simp at hv
    obtain ⟨rfl, rfl⟩ := hv
    refine (imark_nil k0 w).mono ?_
    rintro e w' ⟨rfl, rfl⟩
    exact ⟨by simp, World.grownBy.refl _ _, World.ownsRow_nil _ _ _ _⟩
  · simp at hv
    obtain ⟨rfl, rfl⟩ := hv
    exact imark_some k0 hk0 hk1 base g cap l w hl h

def HdIRel (w : World) (n : Nat) (k0 : Int) (k i : Value) (wr : World) : Prop :=
  ∃ j : Nat, j ≤ n ∧ i = .int .i64 j ∧ k = .int .i64 (k0 + (j : Int)) ∧ w.grownBy wr none

set_option maxRecDepth 100000 in
set_option maxHeartbeats 1000000 in
theorem iheld_any (k0 : Int) (hk0 : 0 ≤ k0) (hk1 : k0 ≤ 100000000) (base : Nat) (a : Option Addr) (c n : Nat) (w : World) (h : w.ownsRow base 2 1 (.slice a n c) n (isV (mkI k0 n))) (hn : n ≤ 1048576) : Calls Try.prog 16 #[.slice a n c, .int .i64 k0] w fun e w' => e = .returned (.int .i64 (k0 + (n : Int))) ∧ w.grownBy w' none := by
  have hML : (mkI k0 n).length = n := mkI_len k0 n
  have hI : IAt w a (mkI k0 n) := i_own (base := base) (c := c) (by rw [OwnI, hML]; exact h)
  have H := Lib.hid hI
  clear h hI
  go_enter Try.func16, Try.ntmps16
  go_wp2_with fail
  go_loopw [1, 5] (fun k i wr => HdIRel w n k0 k i wr) (fun _ i _ => n - (intOf i).toNat)
  case atStart => exact ⟨0, Nat.zero_le _, rfl, by simp, World.grownBy.refl _ _⟩
  case round =>
    obtain ⟨j, hj, rfl, rfl, hg⟩ := hrel
    have HS := Lib.hid hg
    clear hg
    by_cases hlt : j < n
    · rcases (H.out.kept HS.out) with h0 | ⟨b, off, rfl, hb, hc⟩
      · rw [h0] at hML
        simp at hML
        omega
      · have c0 := hc j (by omega)
        rw [mkI_at k0 n j (by omega)] at c0
        clear hc
        have hlt' : (j : Int) < (n : Int) := by omega
        have hq1 : IntKind.i64.wrap (k0 + (j : Int) + 1) = k0 + ((j : Int) + 1) := by rw [IntWalk.i64_in _ (by omega)]; omega
        go_wp2_with fail
        go_roundw
        case rel => exact ⟨j + 1, hlt, by go_num, by first | (go_num; done) | (congr 1; omega) | rfl, HS.out⟩
        case measure => simp [intOf]; omega
    · obtain rfl : j = n := by omega
      go_wp2_with fail
      go_ret
      exact ⟨rfl, HS.out⟩

end Go.Proofs.Ytldcbiahicmgnaa
