/- For every code of bytes the law FnFilter answers true; no condition. -/
import Derived.Test.YtgaipihoonkdoaaRows
import Derived.Test.YtgaipihoonkdoaaDraw
import Derived.Test.YtgaipihoonkdoaaBbD
import Derived.Test.YtgaipihoonkdoaaFlE
import Derived.WalkKit
import Derived.ProofKit
import Derived.OpenShut
import Derived.ShutString
import Derived.ChangeOld
import Derived.Below
import Derived.Lib.SmallJoins
namespace Go.Proofs.Ytgaipihoonkdoaa.fnFilter
open Go.ChangeShapes Go.WideShapes Go.ChangeAt Go.RowKit Go.Joins
open Go.ChangeMaps (open_string shut_string)
set_option linter.unusedVariables false

theorem own : ownKnob Try.prog.godebug = none := by kernel_rfl
theorem laidOut : laidOutB Try.prog = true := by kernel_rfl


def IsRow (k : IntKind) (w : World) (a : Option Addr) (len cap : Nat) (zs : List Int) : Prop :=
  (a = none ∧ len = 0 ∧ cap = 0 ∧ zs = []) ∨
  ∃ x, a = some x ∧ len ≤ cap ∧ cap ≤ maxLen ∧ zs.length = cap ∧ (∀ i, i < zs.length → w.cell? (x.add i) = some (.int k (zs.getD i 0))) ∧ ∀ n ∈ zs, (Lit.int k n).wf = true

theorem step6 {w u v : World} {B : Nat} {T : TypeId} {xs : Array Value} {a1 a2 a3 a4 : Option Addr} {l1 l2 l3 l4 : List Rg} (h : w.grownBy u none ∧ Bx u B T xs ∧ RgAt u a1 l1 ∧ RgAt u a2 l2 ∧ RgAt u a3 l3 ∧ RgAt u a4 l4) (hg : u.grownBy v none) : w.grownBy v none ∧ Bx v B T xs ∧ RgAt v a1 l1 ∧ RgAt v a2 l2 ∧ RgAt v a3 l3 ∧ RgAt v a4 l4 :=
  ⟨grownBy_trans h.1 hg, h.2.1.keep hg, h.2.2.1.kept hg, h.2.2.2.1.kept hg, h.2.2.2.2.1.kept hg, h.2.2.2.2.2.kept hg⟩
def MxRel (w : World) (B : Nat) (t q d : Int) (l : List Rg) (al a1 : Option Addr) (M : List Rg) (v i : Value) (wr : World) : Prop :=
  ∃ j : Nat, j ≤ l.length ∧ i = .int .i64 j ∧ v = .int .i64 (maxT (t, q) d (l.take j)) ∧ w.grownBy wr none ∧ Bx wr B 33 #[.int .i64 t, .int .i64 q] ∧ RgAt wr al l ∧ RgAt wr a1 M
theorem maxT_next (x : Rg) (d : Int) (l : List Rg) (j : Nat) (h : j < l.length) : maxT x d (l.take (j + 1)) = if x.1 - d < (l[j]).1 then max (maxT x d (l.take j)) (l[j]).2 else maxT x d (l.take j) := by
  rw [List.take_succ_eq_append_getElem h, maxT_snoc]

set_option maxRecDepth 100000 in
set_option maxHeartbeats 2500000 in
theorem walk (a0 : Option Addr) (len0 cap0 : Nat) (z0 : List Int) (w : World) (w0 : IsRow .u8 w a0 len0 cap0 z0) :
    Calls Try.prog 13 #[.slice a0 len0 cap0] w fun e w' => e = .returned (.bool true) ∧ Below w.heap.size w w' := by
  have H := Lib.hid (code_of w0)
  clear w0
  go_enter Try.func13, Try.ntmps13
  go_wp2_with fail
  refine (big_any _ _ _ _).mono ?_
  rintro e w' ⟨rfl, rfl⟩
  by_cases hb : 1048576 < len0
  · rw [decide_eq_true hb]
    go_wp2_with fail
    go_ret
    exact ⟨rfl, below_new (World.grownBy.refl _ _)⟩
  · rw [decide_eq_false hb]
    clear hb
    go_wp2_with fail
    refine (draw_fa _ _ _ _ H.out).mono ?_
    rintro e w0 ⟨al, cl, l, t, q, d, rfl, hg, hra, hl⟩
    have hX := Bx.new w0 33 #[.int .i64 t, .int .i64 q]
    have gX := World.grownBy_alloc w0 (.cells #[.int .i64 t, .int .i64 q] 33) none
    have H0 := Lib.hid (And.intro (grownBy_trans hg gX) (And.intro hX (hra.kept gX)))
    clear hg hra hX gX
    go_wp2_with fail
    generalize w0.alloc (.cells #[.int .i64 t, .int .i64 q] 33) = wb at *
    refine (add_impl _ _ _ _ _ _ _ H0.out.2.2 (by omega)).mono ?_
    rintro e w1 ⟨a1, c1, rfl, hg, ho⟩
    have H1 := Lib.hid (And.intro (grownBy_trans H0.out.1 hg) (And.intro (H0.out.2.1.keep hg) (And.intro (H0.out.2.2.kept hg) (rg_own ho))))
    clear hg ho
    have x0 := H1.out.2.1.c 0 rfl
    have x1 := H1.out.2.1.c 1 rfl
    go_wp2_with fail
    refine (add_spec _ _ _ _ _ _ _ H1.out.2.2.1 (by omega)).mono ?_
    rintro e w2 ⟨a2, c2, rfl, hg, ho⟩
    have H2 := Lib.hid (And.intro (grownBy_trans H1.out.1 hg) (And.intro (H1.out.2.1.keep hg) (And.intro (H1.out.2.2.1.kept hg) (And.intro (H1.out.2.2.2.kept hg) (rg_own ho)))))
    have hL := addL_len l (t, q) d
    clear hg ho x0 x1
    go_wp2_with fail
    refine (draw_fo _ _ _ _ (H.out.kept H2.out.1)).mono ?_
    rintro e w3 ⟨ay, cy, ly, rfl, hg, hry, hly⟩
    have H3 := Lib.hid (And.intro (grownBy_trans H2.out.1 hg) (And.intro (H2.out.2.1.keep hg) (And.intro (H2.out.2.2.1.kept hg) (And.intro (H2.out.2.2.2.1.kept hg) (And.intro (H2.out.2.2.2.2.kept hg) hry)))))
    clear hg hry
    go_wp2_with fail
    refine (draw_fb _ _ _ _ (H.out.kept H3.out.1)).mono ?_
    rintro e w4 ⟨az, cz, lz, rfl, hg, hrz, hlz⟩
    have H4 := Lib.hid (And.intro (grownBy_trans H3.out.1 hg) (And.intro (H3.out.2.1.keep hg) (And.intro (H3.out.2.2.2.1.kept hg) (And.intro (H3.out.2.2.2.2.1.kept hg) (And.intro (H3.out.2.2.2.2.2.kept hg) hrz)))))
    have HLA := Lib.hid (H3.out.2.2.1.kept hg)
    have HG40 := Lib.hid (World.grownBy.refl w4 none)
    clear hg hrz
    obtain ⟨F, hF⟩ : ∃ F, flOk ly = F := ⟨_, rfl⟩
    obtain ⟨G, hG⟩ : ∃ G, bestF lz = G := ⟨_, rfl⟩
    have HF := Lib.hid hF
    have HG := Lib.hid hG
    clear hF hG
    cases hok : addOk l (t, q) d
    · have HN := Lib.hid hok
      clear hok
      generalize addL l (t, q) d = M at *
      go_wp2_with fail
      refine (same_samples _ _ _ _ M _ H4.out.2.2.1 H4.out.2.2.2.1 (by omega)).mono ?_
      rintro e wpa ⟨rfl, hg⟩
      have Hpa := Lib.hid (step6 H4.out hg)
      have HG4a := Lib.hid (grownBy_trans HG40.out hg)
      clear hg
      go_wp2_with fail
      refine (fl_impl _ _ _ _ Hpa.out.2.2.2.2.1 (by omega)).mono ?_
      rintro e wpb ⟨rfl, hg⟩
      rw [HF.out]
      have Hpb := Lib.hid (step6 Hpa.out hg)
      have HG4b := Lib.hid (grownBy_trans HG4a.out hg)
      clear hg
      go_wp2_with fail
      refine (fl_spec _ _ _ _ Hpb.out.2.2.2.2.1 (by omega)).mono ?_
      rintro e wpc ⟨rfl, hg⟩
      rw [HF.out]
      have Hpc := Lib.hid (step6 Hpb.out hg)
      have HG4c := Lib.hid (grownBy_trans HG4b.out hg)
      clear hg
      go_wp2_with fail
      refine (best_impl _ _ _ _ Hpc.out.2.2.2.2.2 (by omega)).mono ?_
      rintro e wpd ⟨rfl, hg⟩
      rw [HG.out]
      have Hpd := Lib.hid (step6 Hpc.out hg)
      have HG4d := Lib.hid (grownBy_trans HG4c.out hg)
      clear hg
      go_wp2_with fail
      refine (best_spec _ _ _ _ Hpd.out.2.2.2.2.2 (by omega)).mono ?_
      rintro e wpe ⟨rfl, hg⟩
      rw [HG.out]
      have Hpe := Lib.hid (step6 Hpd.out hg)
      have HG4e := Lib.hid (grownBy_trans HG4d.out hg)
      clear hg
      go_wp2_with fail
      refine (same_samples _ _ _ _ M _ Hpe.out.2.2.1 Hpe.out.2.2.2.1 (by omega)).mono ?_
      rintro e wra ⟨rfl, hg⟩
      have Hra := Lib.hid (step6 Hpe.out hg)
      clear hg
      go_wp2_with fail
      refine (fl_impl _ _ _ _ Hra.out.2.2.2.2.1 (by omega)).mono ?_
      rintro e wrb ⟨rfl, hg⟩
      rw [HF.out]
      have Hrb := Lib.hid (step6 Hra.out hg)
      clear hg
      go_wp2_with fail
      refine (fl_spec _ _ _ _ Hrb.out.2.2.2.2.1 (by omega)).mono ?_
      rintro e wrc ⟨rfl, hg⟩
      rw [HF.out]
      have Hrc := Lib.hid (step6 Hrb.out hg)
      clear hg
      go_wp2_with fail
      refine (best_impl _ _ _ _ Hrc.out.2.2.2.2.2 (by omega)).mono ?_
      rintro e wrd ⟨rfl, hg⟩
      rw [HG.out]
      have Hrd := Lib.hid (step6 Hrc.out hg)
      clear hg
      go_wp2_with fail
      refine (best_spec _ _ _ _ Hrd.out.2.2.2.2.2 (by omega)).mono ?_
      rintro e wre ⟨rfl, hg⟩
      rw [HG.out]
      have Hre := Lib.hid (step6 Hrd.out hg)
      clear hg
      go_wp2_with fail
      go_ret
      exact ⟨by simp, below_new Hre.out.1⟩
    · have hP := addOk_of hok
      have hM := addL_yes hP
      have HMO := Lib.hid (show flOk (addL l (t, q) d) = true ∧ True by rw [hM]; exact ⟨fl_yes hP.2.2.2.2.2, trivial⟩)
      have HMB := Lib.hid (show bestF (addL l (t, q) d) = maxT (t, q) d l by rw [hM]; exact best_max hP)
      have HMN := Lib.hid (show ∃ K, (addL l (t, q) d).length = K + 1 ∧ ∀ h : K < (addL l (t, q) d).length, (addL l (t, q) d)[K] = (t, q) by
        rw [hM]
        refine ⟨(l.filter (keepF (t, q) d)).length, by simp [addF], fun h => ?_⟩
        have h2 : (addF l (t, q) d)[(l.filter (keepF (t, q) d)).length]? = some (t, q) := by
          rw [addF, List.getElem?_append_right (Nat.le_refl _)]
          simp
        rw [List.getElem?_eq_getElem h] at h2
        simpa using h2)
      have HW := Lib.hid (show IntKind.i64.wrap (t - d) = t - d by
        have h1 := hP.2.1.1
        have h2 := hP.2.1.2.1
        have h3 := hP.2.2.1
        have h4 := hP.2.2.2.1
        dsimp only at h1 h2
        exact IntWalk.i64_in _ (by omega))
      clear hok hP hM
      generalize addL l (t, q) d = M at *
      go_wp2_with fail
      refine (same_samples _ _ _ _ M _ H4.out.2.2.1 H4.out.2.2.2.1 (by omega)).mono ?_
      rintro e wpa ⟨rfl, hg⟩
      have Hpa := Lib.hid (step6 H4.out hg)
      have HG4a := Lib.hid (grownBy_trans HG40.out hg)
      clear hg
      go_wp2_with fail
      refine (fl_impl _ _ _ _ Hpa.out.2.2.2.2.1 (by omega)).mono ?_
      rintro e wpb ⟨rfl, hg⟩
      rw [HF.out]
      have Hpb := Lib.hid (step6 Hpa.out hg)
      have HG4b := Lib.hid (grownBy_trans HG4a.out hg)
      clear hg
      go_wp2_with fail
      refine (fl_spec _ _ _ _ Hpb.out.2.2.2.2.1 (by omega)).mono ?_
      rintro e wpc ⟨rfl, hg⟩
      rw [HF.out]
      have Hpc := Lib.hid (step6 Hpb.out hg)
      have HG4c := Lib.hid (grownBy_trans HG4b.out hg)
      clear hg
      go_wp2_with fail
      refine (best_impl _ _ _ _ Hpc.out.2.2.2.2.2 (by omega)).mono ?_
      rintro e wpd ⟨rfl, hg⟩
      rw [HG.out]
      have Hpd := Lib.hid (step6 Hpc.out hg)
      have HG4d := Lib.hid (grownBy_trans HG4c.out hg)
      clear hg
      go_wp2_with fail
      refine (best_spec _ _ _ _ Hpd.out.2.2.2.2.2 (by omega)).mono ?_
      rintro e wpe ⟨rfl, hg⟩
      rw [HG.out]
      have Hpe := Lib.hid (step6 Hpd.out hg)
      have HG4e := Lib.hid (grownBy_trans HG4d.out hg)
      clear hg
      have x0 := Hpe.out.2.1.c 0 rfl
      have x1 := Hpe.out.2.1.c 1 rfl
      go_wp2_with fail
      have HLB := Lib.hid (HLA.out.kept HG4e.out)
      go_loopw [12, 13] (fun v i wr => MxRel w w0.heap.size t q d l al a1 M v i wr) (fun _ i _ => l.length - (intOf i).toNat)
      case atStart => exact ⟨0, Nat.zero_le _, rfl, rfl, Hpe.out.1, Hpe.out.2.1, HLB.out, Hpe.out.2.2.1⟩
      case round =>
        clear x0 x1 HLB Hpa Hpb Hpc Hpd Hpe HLA H4 H3 H2 H1 H0
        obtain ⟨j, hj, rfl, rfl, hg, hbx, hrl, hrm⟩ := hrel
        have HS := Lib.hid (And.intro hg (And.intro hbx (And.intro hrl hrm)))
        have x0 := hbx.c 0 rfl
        have x1 := hbx.c 1 rfl
        clear hg hbx hrl hrm
        by_cases hlt : j < l.length
        · rcases HS.out.2.2.1 with h0 | ⟨b, off, rfl, hb, hc⟩
          · rw [h0] at hlt
            simp at hlt
          · obtain ⟨c0, c1⟩ := hc j hlt
            clear hc
            have HN := Lib.hid (maxT_next (t, q) d l j hlt)
            generalize l[j] = o at *
            obtain ⟨f, y⟩ := o
            have hlt' : (j : Int) < (l.length : Int) := by omega
            have hj0 : (0 : Int) ≤ (j : Int) := by omega
            dsimp only at c0 c1
            have hw := HW.out
            generalize maxT (t, q) d (l.take j) = m at *
            by_cases hf : t - d < f
            · have hfd : decide (t - d < f) = true := decide_eq_true hf
              by_cases hm1 : m < y
              · have HX := Lib.hid (show y = maxT (t, q) d (l.take (j + 1)) by rw [HN.out, if_pos hf]; dsimp only; omega)
                have hm2 : ¬ y < m := by omega
                have hm3 : ¬ y ≤ m := by omega
                have hm4 : max m y = y := by omega
                go_wp2_with fail
                go_quiet (fail)
                go_wp2_with fail
                go_roundw
                case rel => exact ⟨j + 1, hlt, by go_num, by rw [← HX.out], grownBy_trans HS.out.1 (grownBy_drewN _), HS.out.2.1.drew _, HS.out.2.2.1.kept (grownBy_drewN _), HS.out.2.2.2.kept (grownBy_drewN _)⟩
                case measure => simp [intOf]; omega
              · have HX := Lib.hid (show m = maxT (t, q) d (l.take (j + 1)) by rw [HN.out, if_pos hf]; dsimp only; omega)
                have hm3 : y ≤ m := by omega
                have hm4 : max m y = m := by omega
                by_cases hm5 : y = m
                · subst hm5
                  go_wp2_with fail
                  go_quiet (fail)
                  go_wp2_with fail
                  go_roundw
                  case rel => exact ⟨j + 1, hlt, by go_num, by rw [← HX.out], grownBy_trans HS.out.1 (grownBy_drewN _), HS.out.2.1.drew _, HS.out.2.2.1.kept (grownBy_drewN _), HS.out.2.2.2.kept (grownBy_drewN _)⟩
                  case measure => simp [intOf]; omega
                · have hm6 : y < m := by omega
                  have hm7 : ¬ m ≤ y := by omega
                  go_wp2_with fail
                  go_quiet (fail)
                  go_wp2_with fail
                  go_roundw
                  case rel => exact ⟨j + 1, hlt, by go_num, by rw [← HX.out], grownBy_trans HS.out.1 (grownBy_drewN _), HS.out.2.1.drew _, HS.out.2.2.1.kept (grownBy_drewN _), HS.out.2.2.2.kept (grownBy_drewN _)⟩
                  case measure => simp [intOf]; omega
            · have hfd : decide (t - d < f) = false := decide_eq_false hf
              have HX := Lib.hid (show m = maxT (t, q) d (l.take (j + 1)) by rw [HN.out, if_neg hf])
              go_wp2_with fail
              go_quiet (fail)
              go_wp2_with fail
              go_roundw
              case rel => exact ⟨j + 1, hlt, by go_num, by rw [← HX.out], grownBy_trans HS.out.1 (grownBy_drewN _), HS.out.2.1.drew _, HS.out.2.2.1.kept (grownBy_drewN _), HS.out.2.2.2.kept (grownBy_drewN _)⟩
              case measure => simp [intOf]; omega
        · obtain rfl : j = l.length := by omega
          rw [List.take_length]
          obtain ⟨K, hK, hKx⟩ := HMN.out
          have hk0 : (0 : Int) ≤ (K : Int) := by omega
          have hk2 : (0 : Int) < (M.length : Int) := by omega
          have hk3 : (K : Int) < (M.length : Int) := by omega
          have hk4 : K < M.length := by omega
          have hk5 : IntKind.i64.wrap (K : Int) = K := IntWalk.i64_in _ (by omega)
          have hk6 : IntKind.i64.wrap ((M.length : Int) - 1) = K := by rw [IntWalk.i64_in _ (by omega)]; omega
          rcases HS.out.2.2.2 with h0 | ⟨bm, om, rfl, hb, hc⟩
          · rw [h0] at hk4
            simp at hk4
          · obtain ⟨m0, m1⟩ := hc K hk4
            rw [hKx hk4] at m0 m1
            clear hc hKx
            have HKL := Lib.hid hK
            clear hK
            dsimp only at m0 m1
            generalize maxT (t, q) d l = m at *
            go_wp2_with fail
            refine wp_region_held_drew (S := fun w' => w'.cell? ⟨w0.heap.size, 0, none⟩ = some (.int .i64 t) ∧ w'.cell? ⟨w0.heap.size, 1, none⟩ = some (.int .i64 q) ∧ w'.cell? ⟨bm, om + K * 2, none⟩ = some (.int .i64 t) ∧ w'.cell? ⟨bm, om + K * 2 + 1, none⟩ = some (.int .i64 q) ∧ wr.grownBy w' none) (by kernel_rfl) (⟨by first | assumption | (go_simp; done) | (simp [*]; done), by first | assumption | (go_simp; done) | (simp [*]; done), by first | assumption | (go_simp; done) | (simp [*]; done), by first | assumption | (go_simp; done) | (simp [*]; done), grownBy_trans (World.grownBy.refl _ _) grownBy_drew⟩) (fun hS => ?_)
            refine wpAnyH_take (i := 0) (v := ?_) rfl (by kernel_rfl) (by kernel_rfl) (by kernel_rfl) (fun _ _ _ h => h) (Or.inl ⟨by kernel_rfl, ?_⟩) hS ?_
            rotate_left
            · intro w' hSw
              obtain ⟨g0, g1, g2, g3, _⟩ := hSw
              first | (go_simp; done) | (go_simp; with_reducible rfl)
            simp only [List.getElem_toArray, List.getElem_cons_zero, Act.put, List.setIfInBounds_toArray, List.set_cons_zero, List.set_cons_succ]
            refine wpAnyH_ready (rs := [1]) (by kernel_rfl) (List.cons_ne_nil _ _) ?_
            refine AllReadyH.cons rfl (fun K hK => ?_) AllReadyH.nil
            go_simp
            go_at_call 18
            refine (fl_impl _ _ M _ (HS.out.2.2.2.kept (hS.2.2.2.2)) (by omega)).mono ?_
            rintro e w8 ⟨rfl, hg⟩
            rw [HMO.out.1]
            refine hK.out _ _ (⟨hg.cell (hS.1) (by simp), hg.cell (hS.2.1) (by simp), hg.cell (hS.2.2.1) (by simp), hg.cell (hS.2.2.2.1) (by simp), grownBy_trans (hS.2.2.2.2) hg⟩) (fun hS => ?_)
            clear hK
            try simp only [List.getElem_toArray, List.getElem_cons_zero, List.getElem_cons_succ, Act.put, List.setIfInBounds_toArray, List.set_cons_zero, List.set_cons_succ]
            refine wpAnyH_take (i := 2) (v := ?_) rfl (by kernel_rfl) (by kernel_rfl) (by kernel_rfl) (fun _ _ _ h => h) (Or.inl ⟨by kernel_rfl, ?_⟩) hS ?_
            rotate_left
            · intro w' hSw
              obtain ⟨g0, g1, g2, g3, _⟩ := hSw
              first | (go_simp; done) | (go_simp; with_reducible rfl)
            simp only [List.getElem_toArray, List.getElem_cons_zero, List.getElem_cons_succ, Act.put, List.setIfInBounds_toArray, List.set_cons_zero, List.set_cons_succ]
            refine wpAnyH_take (i := 3) (v := ?_) rfl (by kernel_rfl) (by kernel_rfl) (by kernel_rfl) (fun _ _ _ h => h) (Or.inl ⟨by kernel_rfl, ?_⟩) hS ?_
            rotate_left
            · intro w' hSw
              obtain ⟨g0, g1, g2, g3, _⟩ := hSw
              first | (go_simp; done) | (go_simp; with_reducible rfl)
            simp only [List.getElem_toArray, List.getElem_cons_zero, List.getElem_cons_succ, Act.put, List.setIfInBounds_toArray, List.set_cons_zero, List.set_cons_succ]
            refine wpAnyH_take (i := 5) (v := ?_) rfl (by kernel_rfl) (by kernel_rfl) (by kernel_rfl) (fun _ _ _ h => h) (Or.inl ⟨by kernel_rfl, ?_⟩) hS ?_
            rotate_left
            · intro w' hSw
              obtain ⟨g0, g1, g2, g3, _⟩ := hSw
              first | (go_simp; done) | (go_simp; with_reducible rfl)
            simp only [List.getElem_toArray, List.getElem_cons_zero, List.getElem_cons_succ, Act.put, List.setIfInBounds_toArray, List.set_cons_zero, List.set_cons_succ]
            refine wpAnyH_ready (rs := [4]) (by kernel_rfl) (List.cons_ne_nil _ _) ?_
            refine AllReadyH.cons rfl (fun K hK => ?_) AllReadyH.nil
            go_simp
            go_at_call 26
            refine (best_impl _ _ M _ (HS.out.2.2.2.kept (hS.2.2.2.2)) (by omega)).mono ?_
            rintro e w8 ⟨rfl, hg⟩
            rw [HMB.out]
            refine hK.out _ _ (⟨hg.cell (hS.1) (by simp), hg.cell (hS.2.1) (by simp), hg.cell (hS.2.2.1) (by simp), hg.cell (hS.2.2.2.1) (by simp), grownBy_trans (hS.2.2.2.2) hg⟩) (fun hS => ?_)
            clear hK
            try simp only [List.getElem_toArray, List.getElem_cons_zero, List.getElem_cons_succ, Act.put, List.setIfInBounds_toArray, List.set_cons_zero, List.set_cons_succ]
            refine wpAnyH_take (i := 6) (v := ?_) rfl (by kernel_rfl) (by kernel_rfl) (by kernel_rfl) (fun _ _ _ h => h) (Or.inl ⟨by kernel_rfl, ?_⟩) hS ?_
            rotate_left
            · intro w' hSw
              obtain ⟨g0, g1, g2, g3, _⟩ := hSw
              first | (go_simp; done) | (go_simp; with_reducible rfl)
            simp only [List.getElem_toArray, List.getElem_cons_zero, List.getElem_cons_succ, Act.put, List.setIfInBounds_toArray, List.set_cons_zero, List.set_cons_succ]
            refine wpAnyH_take (i := 7) (v := ?_) rfl (by kernel_rfl) (by kernel_rfl) (by kernel_rfl) (fun _ _ _ h => h) (Or.inl ⟨by kernel_rfl, ?_⟩) hS ?_
            rotate_left
            · intro w' hSw
              obtain ⟨g0, g1, g2, g3, _⟩ := hSw
              first | (go_simp; done) | (go_simp; with_reducible rfl)
            simp only [List.getElem_toArray, List.getElem_cons_zero, List.getElem_cons_succ, Act.put, List.setIfInBounds_toArray, List.set_cons_zero, List.set_cons_succ]
            refine wpAnyH_take (i := 8) (v := ?_) rfl (by kernel_rfl) (by kernel_rfl) (by kernel_rfl) (fun _ _ _ h => h) (Or.inl ⟨by kernel_rfl, ?_⟩) hS ?_
            rotate_left
            · intro w' hSw
              obtain ⟨g0, g1, g2, g3, _⟩ := hSw
              first | (go_simp; done) | (go_simp; with_reducible rfl)
            simp only [List.getElem_toArray, List.getElem_cons_zero, List.getElem_cons_succ, Act.put, List.setIfInBounds_toArray, List.set_cons_zero, List.set_cons_succ]
            refine wpAnyH_take (i := 9) (v := ?_) rfl (by kernel_rfl) (by kernel_rfl) (by kernel_rfl) (fun _ _ _ h => h) (Or.inl ⟨by kernel_rfl, ?_⟩) hS ?_
            rotate_left
            · intro w' hSw
              obtain ⟨g0, g1, g2, g3, _⟩ := hSw
              first | (go_simp; done) | (go_simp; with_reducible rfl)
            simp only [List.getElem_toArray, List.getElem_cons_zero, List.getElem_cons_succ, Act.put, List.setIfInBounds_toArray, List.set_cons_zero, List.set_cons_succ]
            refine wpAnyH_take (i := 10) (v := ?_) rfl (by kernel_rfl) (by kernel_rfl) (by kernel_rfl) (fun _ _ _ h => h) (Or.inl ⟨by kernel_rfl, ?_⟩) hS ?_
            rotate_left
            · intro w' hSw
              obtain ⟨g0, g1, g2, g3, _⟩ := hSw
              first | (go_simp; done) | (go_simp; with_reducible rfl)
            simp only [List.getElem_toArray, List.getElem_cons_zero, List.getElem_cons_succ, Act.put, List.setIfInBounds_toArray, List.set_cons_zero, List.set_cons_succ]
            refine wpAnyH_take (i := 11) (v := ?_) rfl (by kernel_rfl) (by kernel_rfl) (by kernel_rfl) (fun _ _ _ h => h) (Or.inl ⟨by kernel_rfl, ?_⟩) hS ?_
            rotate_left
            · intro w' hSw
              obtain ⟨g0, g1, g2, g3, _⟩ := hSw
              first | (go_simp; done) | (go_simp; with_reducible rfl)
            simp only [List.getElem_toArray, List.getElem_cons_zero, List.getElem_cons_succ, Act.put, List.setIfInBounds_toArray, List.set_cons_zero, List.set_cons_succ]
            refine wpAnyH_take (i := 12) (v := ?_) rfl (by kernel_rfl) (by kernel_rfl) (by kernel_rfl) (fun _ _ _ h => h) (Or.inl ⟨by kernel_rfl, ?_⟩) hS ?_
            rotate_left
            · intro w' hSw
              obtain ⟨g0, g1, g2, g3, _⟩ := hSw
              first | (go_simp; done) | (go_simp; with_reducible rfl)
            simp only [List.getElem_toArray, List.getElem_cons_zero, List.getElem_cons_succ, Act.put, List.setIfInBounds_toArray, List.set_cons_zero, List.set_cons_succ]
            refine wpAnyH_take (i := 13) (v := ?_) rfl (by kernel_rfl) (by kernel_rfl) (by kernel_rfl) (fun _ _ _ h => h) (Or.inl ⟨by kernel_rfl, ?_⟩) hS ?_
            rotate_left
            · intro w' hSw
              obtain ⟨g0, g1, g2, g3, _⟩ := hSw
              first | (go_simp; done) | (go_simp; with_reducible rfl)
            simp only [List.getElem_toArray, List.getElem_cons_zero, List.getElem_cons_succ, Act.put, List.setIfInBounds_toArray, List.set_cons_zero, List.set_cons_succ]
            refine wpAnyH_take (i := 14) (v := ?_) rfl (by kernel_rfl) (by kernel_rfl) (by kernel_rfl) (fun _ _ _ h => h) (Or.inl ⟨by kernel_rfl, ?_⟩) hS ?_
            rotate_left
            · intro w' hSw
              obtain ⟨g0, g1, g2, g3, _⟩ := hSw
              first | (go_simp; done) | (go_simp; with_reducible rfl)
            simp only [List.getElem_toArray, List.getElem_cons_zero, List.getElem_cons_succ, Act.put, List.setIfInBounds_toArray, List.set_cons_zero, List.set_cons_succ]
            refine wpAnyH_take (i := 15) (v := ?_) rfl (by kernel_rfl) (by kernel_rfl) (by kernel_rfl) (fun _ _ _ h => h) (Or.inl ⟨by kernel_rfl, ?_⟩) hS ?_
            rotate_left
            · intro w' hSw
              obtain ⟨g0, g1, g2, g3, _⟩ := hSw
              first | (go_simp; done) | (go_simp; with_reducible rfl)
            simp only [List.getElem_toArray, List.getElem_cons_zero, List.getElem_cons_succ, Act.put, List.setIfInBounds_toArray, List.set_cons_zero, List.set_cons_succ]
            refine wpAnyH_take (i := 16) (v := ?_) rfl (by kernel_rfl) (by kernel_rfl) (by kernel_rfl) (fun _ _ _ h => h) (Or.inl ⟨by kernel_rfl, ?_⟩) hS ?_
            rotate_left
            · intro w' hSw
              obtain ⟨g0, g1, g2, g3, _⟩ := hSw
              first | (go_simp; done) | (go_simp; with_reducible rfl)
            simp only [List.getElem_toArray, List.getElem_cons_zero, List.getElem_cons_succ, Act.put, List.setIfInBounds_toArray, List.set_cons_zero, List.set_cons_succ]
            refine wpAnyH_take (i := 17) (v := ?_) rfl (by kernel_rfl) (by kernel_rfl) (by kernel_rfl) (fun _ _ _ h => h) (Or.inl ⟨by kernel_rfl, ?_⟩) hS ?_
            rotate_left
            · intro w' hSw
              obtain ⟨g0, g1, g2, g3, _⟩ := hSw
              first | (go_simp; done) | (go_simp; with_reducible rfl)
            simp only [List.getElem_toArray, List.getElem_cons_zero, List.getElem_cons_succ, Act.put, List.setIfInBounds_toArray, List.set_cons_zero, List.set_cons_succ]
            refine wpAnyH_take (i := 18) (v := ?_) rfl (by kernel_rfl) (by kernel_rfl) (by kernel_rfl) (fun _ _ _ h => h) (Or.inl ⟨by kernel_rfl, ?_⟩) hS ?_
            rotate_left
            · intro w' hSw
              obtain ⟨g0, g1, g2, g3, _⟩ := hSw
              first | (go_simp; done) | (go_simp; with_reducible rfl)
            simp only [List.getElem_toArray, List.getElem_cons_zero, List.getElem_cons_succ, Act.put, List.setIfInBounds_toArray, List.set_cons_zero, List.set_cons_succ]
            refine wpAnyH_done (by kernel_rfl) ?_ _
            have hgw := hS.2.2.2.2
            go_wp2_with fail
            go_ret
            exact ⟨rfl, below_new (grownBy_trans HS.out.1 hgw)⟩

set_option maxRecDepth 100000 in
theorem lifted (os : Os) (started : os.Started) (H : Type) (enc : TypeId × Value → H) :
    ReturnsInHanded {} Try.checked os 13 .any (Rows.fnFilterSpec.pre6 enc Try.prog Try.f13 Rows.fnFilterRow.domain false) (Rows.fnFilterSpec.post enc Try.prog Try.f13 false true false false) := by
  refine returnsInHanded_of_change (C := Try.checked) own started (by kernel_rfl) Try.func13
    (ChangeSpec.witness6 (enc := enc) (C := Try.checked) false ⟨#[], #[.slice none 0 0], []⟩ 8 (by kernel_rfl) (by kernel_rfl) (by kernel_rfl) (by kernel_rfl)) ?_
  intro W base args ds gs before hval0 hW hcnd _
  have hval : ∀ (j : Nat) t v, Try.f13.params[j]? = some t → args[j]? = some v → Value.okWide Try.prog W .any base t v := hval0
  have hW' := hW
  obtain ⟨p, q, hA0, hV, rfl, hfz, hnd⟩ := hW
  have hA : DataW.TrodAll enc Try.prog W 0 (fun _ => true) true Try.f13.params.toList args.toList ds p := hA0
  rw [Try.params13] at hA hval
  obtain ⟨v0, vs0, d0, ds0, p0, q0, hargs, rfl, rfl, h0, r0⟩ := trodAll_cons hA
  obtain ⟨rfl, rfl, rfl⟩ := trodAll_nil r0
  obtain rfl : args = #[v0] := by cases args; simp_all
  obtain ⟨rfl, rfl⟩ := trodVars_none hV
  have k0 := h0
  have lt0 : ∀ x ∈ p0, x.block < W.heap.size := by obtain ⟨m, hm⟩ := k0; exact DataW.trod_lt m _ _ _ hm
  obtain ⟨a0, len0, cap0, rfl⟩ := okWide_slice Try.underlying54 (hval 0 54 v0 rfl rfl)
  obtain ⟨z0, w0⟩ : ∃ zs, IsRow .u8 W a0 len0 cap0 zs := by
    obtain ⟨fuel, hf⟩ := h0
    rcases open_ints Try.underlying54 Try.underlying5 (by kernel_rfl) hf with ⟨hcs, _⟩ | ⟨x, l, c, zs, hcs, _, hl, hm, hz, _, hcell, hwz⟩
    · simp [Value.cells] at hcs
      obtain ⟨rfl, rfl, rfl⟩ := hcs
      exact ⟨[], .inl ⟨rfl, rfl, rfl, rfl⟩⟩
    · simp [Value.cells] at hcs
      obtain ⟨rfl, rfl, rfl⟩ := hcs
      exact ⟨zs, .inr ⟨_, rfl, hl, hm, by simpa using hz, hcell, hwz⟩⟩
  clear hA0 hval0
  refine (walk a0 len0 cap0 z0 W w0).mono fun e W' ⟨he, bel⟩ => ?_
  subst he
  exact ⟨_, rfl, _, _, _, [], _, [], hW', trodAll_mk1 (shut_bool Try.underlying4 _), (trodAll_cons_mk (Below.trod laidOut (by kernel_rfl) (of_decide_eq_true (by kernel_rfl)) k0 bel lt0) trodAll_mk0), rfl, bel.frame _, fun h => by cases h⟩

theorem over : Rows.fnFilterRow.holds Try.pinned (OpenSpec.ofChange Rows.fnFilterSpec) :=
  OpenClaim.holds_of_wide 13 Try.f13 rfl rfl rfl rfl rfl rfl rfl ⟨rfl, rfl, rfl, rfl, rfl⟩ rfl rfl rfl rfl rfl (by kernel_rfl) Try.func13 (by kernel_rfl)
    (of_decide_eq_true (by kernel_rfl)) (by unfold Func.isWrapper; first | (rw [if_pos (by decide +kernel)]; kernel_rfl) | (rw [if_neg (by decide +kernel)]; exact ⟨rfl, rfl⟩))
    (fun os started H enc _ => lifted os started H enc)

theorem proved : Rows.FnFilterSaid := over
end Go.Proofs.Ytgaipihoonkdoaa.fnFilter
