/- For every code the law FnMissing answers true and leaves its argument as it was; no condition. -/
import Derived.Test.YtaigdimicnlfdaaRows
import Derived.Test.YtaigdimicnlfdaaDraw
import Derived.Test.YtaigdimicnlfdaaFrH
import Derived.WalkKit
import Derived.ProofKit
import Derived.OpenShut
import Derived.ShutString
import Derived.ChangeOld
import Derived.Below
import Derived.Lib.SmallJoins
namespace Go.Proofs.Ytaigdimicnlfdaa.fnMissing
open Go.ChangeShapes Go.WideShapes Go.ChangeAt Go.RowKit Go.Joins
open Go.ChangeMaps (open_string shut_string)
set_option linter.unusedVariables false

theorem own : ownKnob Try.prog.godebug = none := by kernel_rfl
theorem laidOut : laidOutB Try.prog = true := by kernel_rfl


def IsRow (k : IntKind) (w : World) (a : Option Addr) (len cap : Nat) (zs : List Int) : Prop :=
  (a = none ∧ len = 0 ∧ cap = 0 ∧ zs = []) ∨
  ∃ x, a = some x ∧ len ≤ cap ∧ cap ≤ maxLen ∧ zs.length = cap ∧ (∀ i, i < zs.length → w.cell? (x.add i) = some (.int k (zs.getD i 0))) ∧ ∀ n ∈ zs, (Lit.int k n).wf = true

theorem fown_kept {w w' : World} {B : Nat} {a : Option Addr} {c : Nat} {l : List Fg} (h : OwnFg w B a c l) (hg : w.grownBy w' none) : OwnFg w' B a c l := World.ownsRow.kept h hg (Classical.em _)
theorem mi_empty (w : World) (B : Nat) (hB : B ≤ w.heap.size) : (w.alloc (.cells #[] 30)).ownsRow B 30 3 (.slice (some ⟨w.heap.size, 0, none⟩) 0 0) 0 [] := fown_base (rowf0 w) hB
theorem mi_first (wr : World) : (wr.alloc (.cells #[] 30)).drew.ownsRow wr.heap.size 30 3 (.slice (some ⟨wr.heap.size, 0, none⟩) 0 0) 0 [] ∧ wr.grownBy (wr.alloc (.cells #[] 30)).drew none := by
  have hg := World.grownBy_alloc wr (.cells #[] 30) none
  have hd : (wr.alloc (.cells #[] 30)).grownBy (wr.alloc (.cells #[] 30)).drew none := grownBy_trans (World.grownBy.refl _ _) ⟨rfl, rfl, rfl, Nat.le_refl _, fun _ _ _ => rfl⟩
  exact ⟨fown_kept (l := []) (mi_empty wr _ (Nat.le_refl _)) hd, grownBy_trans hg hd⟩
theorem mi_parts {w : World} {B g c : Nat} {l q1 q2 : List Fg} {k : Nat} {ad : Addr} (h : OwnFg w B (some ⟨g, 0, none⟩) c l) (hk : k + 1 ≤ l.length) (had : k + 1 < l.length → ad = ⟨g, (k + 1) * 3, none⟩) (h1 : q1 = l.take k) (h2 : q2 = l.drop (k + 1)) :
    SlF w (.slice (some ⟨g, 0, none⟩) k c) q1 ∧ SlF w (.slice (some ad) (l.length - (k + 1)) (c - (k + 1))) q2 := by
  constructor
  · have := slf_part h 0 k (Nat.zero_le _) (by omega) ⟨g, 0, none⟩ (fun _ => by simp) c
    rw [h1]
    simpa using this
  · have := slf_part h (k + 1) l.length hk (Nat.le_refl _) ad had (c - (k + 1))
    rw [List.take_of_length_le (by rw [List.length_drop]; omega)] at this
    rw [h2]
    exact this
theorem mi_mem {l q1 q2 : List Fg} {k : Nat} (h1 : q1 = l.take k) (h2 : q2 = l.drop (k + 1)) : ∀ x ∈ q1 ++ q2, x ∈ l := by
  intro x hx
  rcases List.mem_append.mp hx with hx | hx
  · rw [h1] at hx; exact List.mem_of_mem_take hx
  · rw [h2] at hx; exact List.mem_of_mem_drop hx
theorem mi_last {wr w6 w7 : World} {q1 q2 : List Fg} {v6 v7 : Value} (h : w6.ownsRow wr.heap.size 30 3 v6 (0 + q1.length) ([] ++ fgsV q1)) (hg : wr.grownBy w6 none) (hgr : w6.grownBy w7 v6.ownBlock) (ho : w7.ownsRow wr.heap.size 30 3 v7 (0 + q1.length + q2.length) ([] ++ fgsV q1 ++ fgsV q2)) :
    ∃ a c, v7 = .slice a (q1 ++ q2).length c ∧ FgAt w7 a (q1 ++ q2) ∧ wr.grownBy w7 none := by
  have e1 : 0 + q1.length + q2.length = (q1 ++ q2).length := by simp
  have e2 : [] ++ fgsV q1 ++ fgsV q2 = fgsV (q1 ++ q2) := by simp [fgsV]
  rw [e1, e2] at ho
  obtain ⟨a, c, rfl⟩ := own_slice ho
  exact ⟨a, c, rfl, fg_own ho, grow_own hg hgr h (Nat.le_refl _)⟩

set_option maxRecDepth 100000 in
set_option maxHeartbeats 1500000 in
theorem walk (a0 : Option Addr) (len0 cap0 : Nat) (z0 : List Int) (w : World) (w0 : IsRow .u8 w a0 len0 cap0 z0) :
    Calls Try.prog 4 #[.slice a0 len0 cap0] w fun e w' => e = .returned (.bool true) ∧ Below w.heap.size w w' := by
  obtain ⟨i0, hi, hz0, hz1, hz2⟩ := info_of infoFg
  have H := Lib.hid (code_of w0)
  clear w0
  go_enter Try.func4, Try.ntmps4
  go_wp2_with fail
  refine (big_any _ _ _ _).mono ?_
  rintro e w' ⟨rfl, rfl⟩
  by_cases hb : 1048576 < len0
  · rw [decide_eq_true hb]
    go_wp2_with fail
    go_ret
    exact ⟨rfl, below_new (World.grownBy.refl _ _)⟩
  · rw [decide_eq_false hb]
    clear hb
    go_wp2_with fail
    refine (draw_fo _ _ _ _ H.out).mono ?_
    rintro e w0 ⟨s, z, hs, rfl, hg⟩
    have H0 := Lib.hid hg
    clear hg
    go_wp2_with fail
    refine (fs_I s z _ (by omega)).mono ?_
    rintro e w1 ⟨a1, c1, rfl, hg, ho⟩
    have H1 := Lib.hid (And.intro (grownBy_trans H0.out hg) (fown_base ho H0.out.size))
    clear hg ho
    go_wp2_with fail
    refine (fs_S s z _ (by omega)).mono ?_
    rintro e w2 ⟨a2, c2, rfl, hg, ho⟩
    have H2 := Lib.hid (And.intro (grownBy_trans H1.out.1 hg) (And.intro (fown_kept H1.out.2 hg) (fg_own ho)))
    clear hg ho
    have HM := Lib.hid (fun h i hi => frags_miss (s := s) (z := z) h (i := i) hi)
    have HY := Lib.hid (fun (h : frsP s z) (x : Fg) (hx : x ∈ fragsL s z) => (frags_fr h hx).1)
    have hll := frags_len s z
    generalize fragsL s z = l at *
    by_cases hp : frsP s z
    · rw [decide_eq_true hp]
      have HP := Lib.hid hp
      clear hp
      by_cases h2 : l.length < 2
      · have h2' : (l.length : Int) < 2 := by omega
        go_wp2_with fail
        refine (same_fgs _ _ _ _ _ _ (fg_own H2.out.2.1) H2.out.2.2 (by omega)).mono ?_
        rintro e w3 ⟨rfl, hg⟩
        have H3 := Lib.hid (And.intro (grownBy_trans H2.out.1 hg) (And.intro (fown_kept H2.out.2.1 hg) (H2.out.2.2.kept hg)))
        clear hg
        go_wp2_with fail
        refine (same_fgs _ _ _ _ _ _ (fg_own H3.out.2.1) H3.out.2.2 (by omega)).mono ?_
        rintro e w4 ⟨rfl, hg⟩
        have H4 := Lib.hid (grownBy_trans H3.out.1 hg)
        clear hg
        go_wp2_with fail
        go_ret
        exact ⟨rfl, below_new H4.out⟩
      · have h2' : ¬ (l.length : Int) < 2 := by omega
        go_wp2_with fail
        refine (same_fgs _ _ _ _ _ _ (fg_own H2.out.2.1) H2.out.2.2 (by omega)).mono ?_
        rintro e w3 ⟨rfl, hg⟩
        have H3 := Lib.hid (And.intro (grownBy_trans H2.out.1 hg) (fown_kept H2.out.2.1 hg))
        clear hg H2
        go_wp2_with fail
        rcases H3.out.2.2 with ⟨hv, h0⟩ | ⟨g, cap, cur, hv, hb, _⟩
        · omega
        · simp only [Value.slice.injEq] at hv
          obtain ⟨rfl, _, rfl⟩ := hv
          have hcap := own_cap H3.out.2
          go_loopw [9, 10, 11] (fun i s10 s11 wr => SaRel w3 l.length i wr) (fun i _ _ _ => l.length - (intOf i).toNat)
          case atStart => exact ⟨0, Nat.zero_le _, rfl, World.grownBy.refl _ _⟩
          case round =>
            obtain ⟨k, hk, rfl, hgk⟩ := hrel
            have HS := Lib.hid (And.intro hgk (fown_kept H3.out.2 hgk))
            clear hgk
            by_cases hlt : k < l.length
            · have hlt' : (k : Int) < (l.length : Int) := by omega
              have hk0 : (0 : Int) ≤ (k : Int) := by omega
              have hk1 : (k : Int) ≤ (l.length : Int) := by omega
              have hk2 : (k : Int) ≤ (c1 : Int) := by omega
              have hq : IntKind.i64.wrap ((k : Int) + 1) = ((k + 1 : Nat) : Int) := by rw [IntWalk.i64_in _ (by omega)]; omega
              have hk3 : ((k + 1 : Nat) : Int) ≤ (l.length : Int) := by omega
              have hk4 : (0 : Int) ≤ (k : Int) + 1 := by omega
              have hk5 : (k : Int) + 1 ≤ (l.length : Int) := by omega
              obtain ⟨ad, hAd, hAd2⟩ : ∃ ad : Addr, (if c1 = k + 1 then some ⟨g, 0, none⟩ else some ⟨g, (k + 1) * 3, none⟩ : Option Addr) = some ad ∧ (k + 1 < l.length → ad = ⟨g, (k + 1) * 3, none⟩) := by
                by_cases hc : c1 = k + 1
                · exact ⟨_, if_pos hc, fun h => by omega⟩
                · exact ⟨_, if_neg hc, fun _ => rfl⟩
              go_upto_region 11 with fail
              go_cut [10, 11] (fun s10 s11 wx => s11 = .bool false ∧ wr.grownBy wx none)
              case first =>
                refine wp_region_held_drew (S := fun _ => True) (by kernel_rfl) trivial (fun _ => ?_)
                refine wpAnyH_take (i := 1) (v := ?_) rfl (by kernel_rfl) (by kernel_rfl) (by kernel_rfl) (fun _ _ _ h => h) (Or.inl ⟨by kernel_rfl, ?_⟩) trivial ?_
                rotate_left
                · intro w' _
                  first | (go_simp; done) | (go_simp; with_reducible rfl)
                simp only [List.getElem_toArray, List.getElem_cons_zero, List.getElem_cons_succ, Act.put, List.setIfInBounds_toArray, List.set_cons_zero, List.set_cons_succ]
                refine wpAnyH_take (i := 2) (v := ?_) rfl (by kernel_rfl) (by kernel_rfl) (by kernel_rfl) (fun _ _ _ h => h) (Or.inl ⟨by kernel_rfl, ?_⟩) trivial ?_
                rotate_left
                · intro w' _
                  first | (go_simp; done) | (go_simp; with_reducible rfl)
                simp only [List.getElem_toArray, List.getElem_cons_zero, List.getElem_cons_succ, Act.put, List.setIfInBounds_toArray, List.set_cons_zero, List.set_cons_succ]
                refine wpAnyH_take (i := 3) (v := ?_) rfl (by kernel_rfl) (by kernel_rfl) (by kernel_rfl) (fun _ _ _ h => h) (Or.inl ⟨by kernel_rfl, ?_⟩) trivial ?_
                rotate_left
                · intro w' _
                  first | (go_simp; done) | (go_simp; with_reducible rfl)
                simp only [List.getElem_toArray, List.getElem_cons_zero, List.getElem_cons_succ, Act.put, List.setIfInBounds_toArray, List.set_cons_zero, List.set_cons_succ]
                refine wpAnyH_take (i := 5) (v := ?_) rfl (by kernel_rfl) (by kernel_rfl) (by kernel_rfl) (fun _ _ _ h => h) (Or.inl ⟨by kernel_rfl, ?_⟩) trivial ?_
                rotate_left
                · intro w' _
                  first | (go_simp; done) | (go_simp; with_reducible rfl)
                simp only [List.getElem_toArray, List.getElem_cons_zero, List.getElem_cons_succ, Act.put, List.setIfInBounds_toArray, List.set_cons_zero, List.set_cons_succ]
                refine wpAnyH_take (i := 6) (v := ?_) rfl (by kernel_rfl) (by kernel_rfl) (by kernel_rfl) (fun _ _ _ h => h) (Or.inl ⟨by kernel_rfl, ?_⟩) trivial ?_
                rotate_left
                · intro w' _
                  first | (go_simp; done) | (go_simp; with_reducible rfl)
                simp only [List.getElem_toArray, List.getElem_cons_zero, List.getElem_cons_succ, Act.put, List.setIfInBounds_toArray, List.set_cons_zero, List.set_cons_succ]
                refine wpAnyH_take (i := 7) (v := ?_) rfl (by kernel_rfl) (by kernel_rfl) (by kernel_rfl) (fun _ _ _ h => h) (Or.inl ⟨by kernel_rfl, ?_⟩) trivial ?_
                rotate_left
                · intro w' _
                  first | (go_simp; done) | (go_simp; with_reducible rfl)
                simp only [List.getElem_toArray, List.getElem_cons_zero, List.getElem_cons_succ, Act.put, List.setIfInBounds_toArray, List.set_cons_zero, List.set_cons_succ]
                refine wpAnyH_take (i := 8) (v := .slice (some ad) (l.length - (k + 1)) (c1 - (k + 1))) rfl (by kernel_rfl) (by kernel_rfl) (by kernel_rfl) (fun _ _ _ h => h) (Or.inl ⟨by kernel_rfl, ?_⟩) trivial ?_
                · intro w' _
                  first | (go_simp; done) | (go_simp; with_reducible rfl)
                simp only [List.getElem_toArray, List.getElem_cons_zero, List.getElem_cons_succ, Act.put, List.setIfInBounds_toArray, List.set_cons_zero, List.set_cons_succ]
                refine wpAnyH_ready (rs := [0]) (by kernel_rfl) (List.cons_ne_nil _ _) ?_
                refine AllReadyH.cons rfl (fun K hK => ?_) AllReadyH.nil
                go_simp
                have HE := Lib.hid (mi_first wr)
                refine hK.out _ _ trivial (fun _ => ?_)
                clear hK K
                try simp only [List.getElem_toArray, List.getElem_cons_zero, List.getElem_cons_succ, Act.put, List.setIfInBounds_toArray, List.set_cons_zero, List.set_cons_succ]
                generalize (wr.alloc (.cells #[] 30)).drew = w5 at *
                obtain ⟨q1, hq1⟩ : ∃ q, q = l.take k := ⟨_, rfl⟩
                obtain ⟨q2, hq2⟩ : ∃ q, q = l.drop (k + 1) := ⟨_, rfl⟩
                have hl1 : q1.length = k := by rw [hq1, List.length_take]; omega
                have hl2 : q2.length = l.length - (k + 1) := by rw [hq2, List.length_drop]
                have HQ := Lib.hid (mi_parts HS.out.2 (by omega) hAd2 hq1 hq2)
                have HW := Lib.hid (And.intro (HM.out HP.out k hlt) (HY.out HP.out))
                rw [← hq1, ← hq2] at HW
                have HW2 := Lib.hid (show ∀ x ∈ q1 ++ q2, x ∈ l from mi_mem hq1 hq2)
                clear hq1 hq2 hAd hAd2
                refine wpAnyH_ready (rs := [4]) (by kernel_rfl) (List.cons_ne_nil _ _) ?_
                refine AllReadyH.cons rfl (fun K hK => ?_) AllReadyH.nil
                refine step_append_fgx (by rfl) _ _ _ (by rfl) wr.heap.size 30 i0 _ 32 Try.underlying26 hi hz0 hz1 hz2 rfl _ 0 [] (by rfl) HE.out.1 _ q1 (by rfl) (HQ.out.1.kept HE.out.2) (by unfold maxLen; omega) (by omega) HE.out.2.size ?_
                intro v6 w6 hown6 hgr6
                have HF := Lib.hid (And.intro hown6 (grow_own HE.out.2 hgr6 HE.out.1 (Nat.le_refl _)))
                clear hown6 hgr6 HE
                refine hK.out _ _ trivial (fun _ => ?_)
                clear hK K
                try simp only [List.getElem_toArray, List.getElem_cons_zero, List.getElem_cons_succ, Act.put, List.setIfInBounds_toArray, List.set_cons_zero, List.set_cons_succ]
                refine wpAnyH_ready (rs := [9]) (by kernel_rfl) (List.cons_ne_nil _ _) ?_
                refine AllReadyH.cons rfl (fun K hK => ?_) AllReadyH.nil
                refine step_append_fgx (by rfl) _ _ _ (by rfl) wr.heap.size 30 i0 _ 32 Try.underlying26 hi hz0 hz1 hz2 rfl _ _ _ (by rfl) HF.out.1 _ q2 (by rfl) (HQ.out.2.kept HF.out.2) (by unfold maxLen; omega) (by omega) HF.out.2.size ?_
                intro v7 w7 hown7 hgr7
                have HG := Lib.hid (mi_last HF.out.1 HF.out.2 hgr7 hown7)
                clear hown7 hgr7 HF
                refine hK.out _ _ trivial (fun _ => ?_)
                clear hK K
                try simp only [List.getElem_toArray, List.getElem_cons_zero, List.getElem_cons_succ, Act.put, List.setIfInBounds_toArray, List.set_cons_zero, List.set_cons_succ]
                obtain ⟨a8, c8, rfl, hA8, hg8⟩ := HG.out
                clear HG
                have H8 := Lib.hid (And.intro hA8 hg8)
                clear hA8 hg8
                have hl8 : (q1 ++ q2).length ≤ 126 := by rw [List.length_append]; omega
                clear hl1 hl2
                generalize q1 ++ q2 = m at *
                refine wpAnyH_ready (rs := [10]) (by kernel_rfl) (List.cons_ne_nil _ _) ?_
                refine AllReadyH.cons rfl (fun K hK => ?_) AllReadyH.nil
                go_simp
                go_at_call 13
                refine (whole_I a8 c8 m _ H8.out.1 (by omega) (fun x hx => by have := (HW.out.2 x (HW2.out x hx)).2.2.2.1; omega)).mono ?_
                rintro e w9 ⟨rfl, hg⟩
                rw [HW.out.1]
                have H9 := Lib.hid (grownBy_trans H8.out.2 hg)
                clear hg
                refine hK.out _ _ trivial (fun _ => ?_)
                clear hK K
                try simp only [List.getElem_toArray, List.getElem_cons_zero, List.getElem_cons_succ, Act.put, List.setIfInBounds_toArray, List.set_cons_zero, List.set_cons_succ]
                refine wpAnyH_take (i := 11) (v := ?_) rfl (by kernel_rfl) (by kernel_rfl) (by kernel_rfl) (fun _ _ _ h => h) (Or.inl ⟨by kernel_rfl, ?_⟩) trivial ?_
                rotate_left
                · intro w' _
                  first | (go_simp; done) | (go_simp; with_reducible rfl)
                simp only [List.getElem_toArray, List.getElem_cons_zero, List.getElem_cons_succ, Act.put, List.setIfInBounds_toArray, List.set_cons_zero, List.set_cons_succ]
                refine wpAnyH_take (i := 12) (v := ?_) rfl (by kernel_rfl) (by kernel_rfl) (by kernel_rfl) (fun _ _ _ h => h) (Or.inl ⟨by kernel_rfl, ?_⟩) trivial ?_
                rotate_left
                · intro w' _
                  first | (go_simp; done) | (go_simp; with_reducible rfl)
                simp only [List.getElem_toArray, List.getElem_cons_zero, List.getElem_cons_succ, Act.put, List.setIfInBounds_toArray, List.set_cons_zero, List.set_cons_succ]
                refine wpAnyH_take (i := 13) (v := ?_) rfl (by kernel_rfl) (by kernel_rfl) (by kernel_rfl) (fun _ _ _ h => h) (Or.inl ⟨by kernel_rfl, ?_⟩) trivial ?_
                rotate_left
                · intro w' _
                  first | (go_simp; done) | (go_simp; with_reducible rfl)
                simp only [List.getElem_toArray, List.getElem_cons_zero, List.getElem_cons_succ, Act.put, List.setIfInBounds_toArray, List.set_cons_zero, List.set_cons_succ]
                refine wpAnyH_take (i := 14) (v := ?_) rfl (by kernel_rfl) (by kernel_rfl) (by kernel_rfl) (fun _ _ _ h => h) (Or.inl ⟨by kernel_rfl, ?_⟩) trivial ?_
                rotate_left
                · intro w' _
                  first | (go_simp; done) | (go_simp; with_reducible rfl)
                simp only [List.getElem_toArray, List.getElem_cons_zero, List.getElem_cons_succ, Act.put, List.setIfInBounds_toArray, List.set_cons_zero, List.set_cons_succ]
                refine wpAnyH_take (i := 15) (v := ?_) rfl (by kernel_rfl) (by kernel_rfl) (by kernel_rfl) (fun _ _ _ h => h) (Or.inl ⟨by kernel_rfl, ?_⟩) trivial ?_
                rotate_left
                · intro w' _
                  first | (go_simp; done) | (go_simp; with_reducible rfl)
                simp only [List.getElem_toArray, List.getElem_cons_zero, List.getElem_cons_succ, Act.put, List.setIfInBounds_toArray, List.set_cons_zero, List.set_cons_succ]
                refine wpAnyH_done (by kernel_rfl) ?_ _
                go_wp2_with fail
                go_meet
                exact ⟨rfl, H9.out⟩
              case rest =>
                obtain ⟨rfl, hgx⟩ := hcut
                have HX := Lib.hid (grownBy_trans HS.out.1 hgx)
                clear hgx
                go_wp2_with fail
                go_roundw
                case rel => exact ⟨k + 1, hlt, by go_num, HX.out⟩
                case measure => simp [intOf]; omega
            · obtain rfl : k = l.length := by omega
              go_wp2_with fail
              go_ret
              exact ⟨rfl, below_new (grownBy_trans H3.out.1 HS.out.1)⟩
    · rw [decide_eq_false hp]
      go_wp2_with fail
      refine (same_fgs _ _ _ _ _ _ (fg_own H2.out.2.1) H2.out.2.2 (by omega)).mono ?_
      rintro e w3 ⟨rfl, hg⟩
      have H3 := Lib.hid (And.intro (grownBy_trans H2.out.1 hg) (And.intro (fown_kept H2.out.2.1 hg) (H2.out.2.2.kept hg)))
      clear hg
      go_wp2_with fail
      refine (same_fgs _ _ _ _ _ _ (fg_own H3.out.2.1) H3.out.2.2 (by omega)).mono ?_
      rintro e w4 ⟨rfl, hg⟩
      have H4 := Lib.hid (grownBy_trans H3.out.1 hg)
      clear hg
      go_wp2_with fail
      go_ret
      exact ⟨rfl, below_new H4.out⟩

set_option maxRecDepth 100000 in
theorem lifted (os : Os) (started : os.Started) (H : Type) (enc : TypeId × Value → H) :
    ReturnsInHanded {} Try.checked os 4 .any (Rows.fnMissingSpec.pre6 enc Try.prog Try.f4 Rows.fnMissingRow.domain false) (Rows.fnMissingSpec.post enc Try.prog Try.f4 false true false false) := by
  refine returnsInHanded_of_change (C := Try.checked) own started (by kernel_rfl) Try.func4
    (ChangeSpec.witness6 (enc := enc) (C := Try.checked) false ⟨#[], #[.slice none 0 0], []⟩ 8 (by kernel_rfl) (by kernel_rfl) (by kernel_rfl) (by kernel_rfl)) ?_
  intro W base args ds gs before hval0 hW hcnd _
  have hval : ∀ (j : Nat) t v, Try.f4.params[j]? = some t → args[j]? = some v → Value.okWide Try.prog W .any base t v := hval0
  have hW' := hW
  obtain ⟨p, q, hA0, hV, rfl, hfz, hnd⟩ := hW
  have hA : DataW.TrodAll enc Try.prog W 0 (fun _ => true) true Try.f4.params.toList args.toList ds p := hA0
  rw [Try.params4] at hA hval
  obtain ⟨v0, vs0, d0, ds0, p0, q0, hargs, rfl, rfl, h0, r0⟩ := trodAll_cons hA
  obtain ⟨rfl, rfl, rfl⟩ := trodAll_nil r0
  obtain rfl : args = #[v0] := by cases args; simp_all
  obtain ⟨rfl, rfl⟩ := trodVars_none hV
  have k0 := h0
  have lt0 : ∀ x ∈ p0, x.block < W.heap.size := by obtain ⟨m, hm⟩ := k0; exact DataW.trod_lt m _ _ _ hm
  obtain ⟨a0, len0, cap0, rfl⟩ := okWide_slice Try.underlying22 (hval 0 22 v0 rfl rfl)
  obtain ⟨z0, w0⟩ : ∃ zs, IsRow .u8 W a0 len0 cap0 zs := by
    obtain ⟨fuel, hf⟩ := h0
    rcases open_ints Try.underlying22 Try.underlying5 (by kernel_rfl) hf with ⟨hcs, _⟩ | ⟨x, l, c, zs, hcs, _, hl, hm, hz, _, hcell, hwz⟩
    · simp [Value.cells] at hcs
      obtain ⟨rfl, rfl, rfl⟩ := hcs
      exact ⟨[], .inl ⟨rfl, rfl, rfl, rfl⟩⟩
    · simp [Value.cells] at hcs
      obtain ⟨rfl, rfl, rfl⟩ := hcs
      exact ⟨zs, .inr ⟨_, rfl, hl, hm, by simpa using hz, hcell, hwz⟩⟩
  clear hA0 hval0
  refine (walk a0 len0 cap0 z0 W w0).mono fun e W' ⟨he, bel⟩ => ?_
  subst he
  exact ⟨_, rfl, _, _, _, [], _, [], hW', trodAll_mk1 (shut_bool Try.underlying4 _), (trodAll_cons_mk (Below.trod laidOut (by kernel_rfl) (of_decide_eq_true (by kernel_rfl)) k0 bel lt0) trodAll_mk0), rfl, bel.frame _, fun h => by cases h⟩

theorem over : Rows.fnMissingRow.holds Try.pinned (OpenSpec.ofChange Rows.fnMissingSpec) :=
  OpenClaim.holds_of_wide 4 Try.f4 rfl rfl rfl rfl rfl rfl rfl ⟨rfl, rfl, rfl, rfl, rfl⟩ rfl rfl rfl rfl rfl (by kernel_rfl) Try.func4 (by kernel_rfl)
    (of_decide_eq_true (by kernel_rfl)) (by unfold Func.isWrapper; first | (rw [if_pos (by decide +kernel)]; kernel_rfl) | (rw [if_neg (by decide +kernel)]; exact ⟨rfl, rfl⟩))
    (fun os started H enc _ => lifted os started H enc)

theorem proved : Rows.FnMissingSaid := over
end Go.Proofs.Ytaigdimicnlfdaa.fnMissing
