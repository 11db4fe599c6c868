/- For every code the law FnFrames answers true and leaves its argument as it was; no condition. -/
import Derived.Test.YtpihfhpdamjefaaRows
import Derived.Test.YtpihfhpdamjefaaDrawFrk
import Derived.Test.YtpihfhpdamjefaaFrmK
import Derived.WalkKit
import Derived.ProofKit
import Derived.OpenShut
import Derived.ShutString
import Derived.ChangeOld
import Derived.Below
import Derived.Lib.SmallJoins
namespace Go.Proofs.Ytpihfhpdamjefaa.fnFrames
open Go.ChangeShapes Go.WideShapes Go.ChangeAt Go.RowKit Go.Joins
open Go.ChangeMaps (open_string shut_string)
set_option linter.unusedVariables false

theorem own : ownKnob Try.prog.godebug = none := by kernel_rfl
theorem laidOut : laidOutB Try.prog = true := by kernel_rfl


def IsRow (k : IntKind) (w : World) (a : Option Addr) (len cap : Nat) (zs : List Int) : Prop :=
  (a = none ∧ len = 0 ∧ cap = 0 ∧ zs = []) ∨
  ∃ x, a = some x ∧ len ≤ cap ∧ cap ≤ maxLen ∧ zs.length = cap ∧ (∀ i, i < zs.length → w.cell? (x.add i) = some (.int k (zs.getD i 0))) ∧ ∀ n ∈ zs, (Lit.int k n).wf = true

theorem dummy : True := trivial

set_option maxRecDepth 100000 in
set_option maxHeartbeats 8000000 in
theorem walk (a0 : Option Addr) (len0 cap0 : Nat) (z0 : List Int) (w : World) (w0 : IsRow .u8 w a0 len0 cap0 z0) :
    Calls Try.prog 3 #[.slice a0 len0 cap0] w fun e w' => e = .returned (.bool true) ∧ Below w.heap.size w w' := by
  have hc := code_of w0
  clear w0
  have HC := Lib.hid hc
  clear hc
  by_cases hbig : 1048576 < len0
  · go_enter Try.func3, Try.ntmps3
    go_wp2_with (go_at_call 8; refine (big_any _ _ _ _).mono ?_; rintro e w' ⟨rfl, rfl⟩)
    go_ret
    exact ⟨rfl, Below.refl _ _⟩
  · go_enter Try.func3, Try.ntmps3
    go_wp2_with (go_at_call 8; refine (big_any _ _ _ _).mono ?_; rintro e w' ⟨rfl, rfl⟩)
    refine (draw_frame _ _ _ _ HC.out).mono ?_
    rintro e w1 ⟨t, f, b, v, k, rfl, hg⟩
    have H1 := Lib.hid ((frm_new w1 (.string ⟨t.toArray⟩) (.string ⟨f.toArray⟩) (.int .i64 v) (.int .i64 k) (.string ⟨b.toArray⟩) 25).base hg)
    have HK := Lib.hid (HC.out.kept hg)
    clear hg HC
    go_wp2_with fail
    refine (frame_impl _ _ _ _ _ _).mono ?_
    rintro e w2 ⟨rfl, hg⟩
    have H2 := Lib.hid (H1.out.kept hg)
    have HK2 := Lib.hid ((HK.out.kept (World.grownBy_alloc _ _ _)).kept hg)
    clear hg H1 HK
    obtain ⟨T, F, V, K, B, hA⟩ := read_first t f v k b
    have HA := Lib.hid hA
    clear hA
    by_cases hok : frameOk t f v k b
    · have HD := Lib.hid (decide_eq_true hok)
      obtain ⟨rfl, rfl, rfl, rfl, rfl⟩ := HA.out.2 hok
      clear hok
      go_wp2_with fail
      refine (HA.out.1 _).mono ?_
      rintro e w3 ⟨rfl, hg⟩
      rw [HD.out]
      have h3 := H2.out.kept hg
      have hlt : w1.heap.size < w3.heap.size := cell_in (frm_facts h3).1
      have H3 := Lib.hid (h3.kept (World.grownBy_alloc w3 (.cells #[.string ⟨T.toArray⟩, .string ⟨F.toArray⟩, .int .i64 V, .int .i64 K, .string ⟨B.toArray⟩] 25) none))
      have HX := Lib.hid (frm_new w3 (.string ⟨T.toArray⟩) (.string ⟨F.toArray⟩) (.int .i64 V) (.int .i64 K) (.string ⟨B.toArray⟩) 25)
      have HK3 := Lib.hid ((HK2.out.kept hg).kept (World.grownBy_alloc w3 (.cells #[.string ⟨T.toArray⟩, .string ⟨F.toArray⟩, .int .i64 V, .int .i64 K, .string ⟨B.toArray⟩] 25) none))
      clear hg H2 HK2 h3
      obtain ⟨c0, c1, c2, c3, c4, _⟩ := frm_facts H3.out
      obtain ⟨x0, x1, x2, x3, x4, _⟩ := frm_facts HX.out
      go_wp2_with fail
      generalize w3.alloc (.cells #[.string ⟨T.toArray⟩, .string ⟨F.toArray⟩, .int .i64 V, .int .i64 K, .string ⟨B.toArray⟩] 25) = w4 at *
      go_region_held3 (fun w' => w'.cell? ⟨w1.heap.size, 0, none⟩ = some (.string ⟨T.toArray⟩) ∧ w'.cell? ⟨w1.heap.size, 1, none⟩ = some (.string ⟨F.toArray⟩) ∧ w'.cell? ⟨w1.heap.size, 2, none⟩ = some (.int .i64 V) ∧ w'.cell? ⟨w1.heap.size, 3, none⟩ = some (.int .i64 K) ∧ w'.cell? ⟨w1.heap.size, 4, none⟩ = some (.string ⟨B.toArray⟩) ∧ w'.cell? ⟨w3.heap.size, 0, none⟩ = some (.string ⟨T.toArray⟩) ∧ w'.cell? ⟨w3.heap.size, 1, none⟩ = some (.string ⟨F.toArray⟩) ∧ w'.cell? ⟨w3.heap.size, 2, none⟩ = some (.int .i64 V) ∧ w'.cell? ⟨w3.heap.size, 3, none⟩ = some (.int .i64 K) ∧ w'.cell? ⟨w3.heap.size, 4, none⟩ = some (.string ⟨B.toArray⟩) ∧ w4.grownBy w' none) ((refine ⟨by first | assumption | (simp [*]; done), by first | assumption | (simp [*]; done), by first | assumption | (simp [*]; done), by first | assumption | (simp [*]; done), by first | assumption | (simp [*]; done), by first | assumption | (simp [*]; done), by first | assumption | (simp [*]; done), by first | assumption | (simp [*]; done), by first | assumption | (simp [*]; done), by first | assumption | (simp [*]; done), by first | assumption | exact grownBy_drew | exact grownBy_trans (by assumption) (by assumption)⟩))
        (first
          | (go_at_call 12; refine (frame_spec _ _ _ _ _ _).mono ?_; rintro e w9 ⟨rfl, hg⟩; have q0 := hg.cell (a := ⟨w1.heap.size, 0, none⟩) (v := .string ⟨T.toArray⟩) (by assumption) (by simp); have q1 := hg.cell (a := ⟨w1.heap.size, 1, none⟩) (v := .string ⟨F.toArray⟩) (by assumption) (by simp); have q2 := hg.cell (a := ⟨w1.heap.size, 2, none⟩) (v := .int .i64 V) (by assumption) (by simp); have q3 := hg.cell (a := ⟨w1.heap.size, 3, none⟩) (v := .int .i64 K) (by assumption) (by simp); have q4 := hg.cell (a := ⟨w1.heap.size, 4, none⟩) (v := .string ⟨B.toArray⟩) (by assumption) (by simp); have q5 := hg.cell (a := ⟨w3.heap.size, 0, none⟩) (v := .string ⟨T.toArray⟩) (by assumption) (by simp); have q6 := hg.cell (a := ⟨w3.heap.size, 1, none⟩) (v := .string ⟨F.toArray⟩) (by assumption) (by simp); have q7 := hg.cell (a := ⟨w3.heap.size, 2, none⟩) (v := .int .i64 V) (by assumption) (by simp); have q8 := hg.cell (a := ⟨w3.heap.size, 3, none⟩) (v := .int .i64 K) (by assumption) (by simp); have q9 := hg.cell (a := ⟨w3.heap.size, 4, none⟩) (v := .string ⟨B.toArray⟩) (by assumption) (by simp); have qg : w4.grownBy w9 none := by first | exact grownBy_trans grownBy_drew hg | exact grownBy_trans (by assumption) hg)
          | (go_at_call 13; refine (frame_ok_impl _ _ _ _ _ _).mono ?_; rintro e w9 ⟨rfl, hg⟩; rw [HD.out]; have q0 := hg.cell (a := ⟨w1.heap.size, 0, none⟩) (v := .string ⟨T.toArray⟩) (by assumption) (by simp); have q1 := hg.cell (a := ⟨w1.heap.size, 1, none⟩) (v := .string ⟨F.toArray⟩) (by assumption) (by simp); have q2 := hg.cell (a := ⟨w1.heap.size, 2, none⟩) (v := .int .i64 V) (by assumption) (by simp); have q3 := hg.cell (a := ⟨w1.heap.size, 3, none⟩) (v := .int .i64 K) (by assumption) (by simp); have q4 := hg.cell (a := ⟨w1.heap.size, 4, none⟩) (v := .string ⟨B.toArray⟩) (by assumption) (by simp); have q5 := hg.cell (a := ⟨w3.heap.size, 0, none⟩) (v := .string ⟨T.toArray⟩) (by assumption) (by simp); have q6 := hg.cell (a := ⟨w3.heap.size, 1, none⟩) (v := .string ⟨F.toArray⟩) (by assumption) (by simp); have q7 := hg.cell (a := ⟨w3.heap.size, 2, none⟩) (v := .int .i64 V) (by assumption) (by simp); have q8 := hg.cell (a := ⟨w3.heap.size, 3, none⟩) (v := .int .i64 K) (by assumption) (by simp); have q9 := hg.cell (a := ⟨w3.heap.size, 4, none⟩) (v := .string ⟨B.toArray⟩) (by assumption) (by simp); have qg : w4.grownBy w9 none := by first | exact grownBy_trans grownBy_drew hg | exact grownBy_trans (by assumption) hg)
          | (go_at_call 14; refine (frame_ok_spec _ _ _ _ _ _).mono ?_; rintro e w9 ⟨rfl, hg⟩; rw [HD.out]; have q0 := hg.cell (a := ⟨w1.heap.size, 0, none⟩) (v := .string ⟨T.toArray⟩) (by assumption) (by simp); have q1 := hg.cell (a := ⟨w1.heap.size, 1, none⟩) (v := .string ⟨F.toArray⟩) (by assumption) (by simp); have q2 := hg.cell (a := ⟨w1.heap.size, 2, none⟩) (v := .int .i64 V) (by assumption) (by simp); have q3 := hg.cell (a := ⟨w1.heap.size, 3, none⟩) (v := .int .i64 K) (by assumption) (by simp); have q4 := hg.cell (a := ⟨w1.heap.size, 4, none⟩) (v := .string ⟨B.toArray⟩) (by assumption) (by simp); have q5 := hg.cell (a := ⟨w3.heap.size, 0, none⟩) (v := .string ⟨T.toArray⟩) (by assumption) (by simp); have q6 := hg.cell (a := ⟨w3.heap.size, 1, none⟩) (v := .string ⟨F.toArray⟩) (by assumption) (by simp); have q7 := hg.cell (a := ⟨w3.heap.size, 2, none⟩) (v := .int .i64 V) (by assumption) (by simp); have q8 := hg.cell (a := ⟨w3.heap.size, 3, none⟩) (v := .int .i64 K) (by assumption) (by simp); have q9 := hg.cell (a := ⟨w3.heap.size, 4, none⟩) (v := .string ⟨B.toArray⟩) (by assumption) (by simp); have qg : w4.grownBy w9 none := by first | exact grownBy_trans grownBy_drew hg | exact grownBy_trans (by assumption) hg))
      rename_i hH
      have HG := Lib.hid (grownBy_trans H3.out.grown hH.2.2.2.2.2.2.2.2.2.2)
      have HK5 := Lib.hid (HK3.out.kept hH.2.2.2.2.2.2.2.2.2.2)

      clear HK3 hH qg hg
      go_wp2_with fail
      refine (draw_rframe _ _ _ _ HK5.out).mono ?_
      rintro e w10 ⟨l, hl, rfl, hg⟩
      have HL := Lib.hid (grownBy_trans HG.out hg)
      obtain ⟨T2, F2, V2, K2, B2, d2, hR⟩ := read_second l (by omega)
      have HR := Lib.hid hR
      clear hg hR HG HK5
      go_wp2_with fail
      refine (HR.out.2.1 _).mono ?_
      rintro e w11 ⟨rfl, hg⟩
      have HM := Lib.hid ((frm_new w11 (.string ⟨T2.toArray⟩) (.string ⟨F2.toArray⟩) (.int .i64 V2) (.int .i64 K2) (.string ⟨B2.toArray⟩) 25).base (grownBy_trans HL.out hg))
      clear hg HL
      go_wp2_with fail
      refine (HR.out.1 _).mono ?_
      rintro e w12 ⟨rfl, hg⟩
      have HM2 := Lib.hid (HM.out.kept hg)
      clear hg HM
      obtain ⟨m0, m1, m2, m3, m4, _⟩ := frm_facts HM2.out
      have hlt2 : w11.heap.size < w12.heap.size := cell_in m0
      cases d2
      · go_wp2_with fail
        go_ret
        exact ⟨rfl, below_new (grownBy_trans HM2.out.grown (World.grownBy_alloc _ _ _))⟩
      · go_wp2_with fail
        refine (frame_impl _ _ _ _ _ _).mono ?_
        rintro e w13 ⟨rfl, hg⟩
        rw [HR.out.2.2 (by first | rfl | trivial)]
        have HG9 := Lib.hid (grownBy_trans HM2.out.grown (grownBy_trans (World.grownBy_alloc _ _ _) hg))
        clear hg
        go_wp2_with fail
        go_ret
        exact ⟨rfl, below_new HG9.out⟩
    · have HD := Lib.hid (decide_eq_false hok)
      clear hok
      go_wp2_with fail
      refine (HA.out.1 _).mono ?_
      rintro e w3 ⟨rfl, hg⟩
      rw [HD.out]
      have h3 := H2.out.kept hg
      have hlt : w1.heap.size < w3.heap.size := cell_in (frm_facts h3).1
      have H3 := Lib.hid (h3.kept (World.grownBy_alloc w3 (.cells #[.string ⟨T.toArray⟩, .string ⟨F.toArray⟩, .int .i64 V, .int .i64 K, .string ⟨B.toArray⟩] 25) none))
      have HX := Lib.hid (frm_new w3 (.string ⟨T.toArray⟩) (.string ⟨F.toArray⟩) (.int .i64 V) (.int .i64 K) (.string ⟨B.toArray⟩) 25)
      have HK3 := Lib.hid ((HK2.out.kept hg).kept (World.grownBy_alloc w3 (.cells #[.string ⟨T.toArray⟩, .string ⟨F.toArray⟩, .int .i64 V, .int .i64 K, .string ⟨B.toArray⟩] 25) none))
      clear hg H2 HK2 h3
      obtain ⟨c0, c1, c2, c3, c4, _⟩ := frm_facts H3.out
      obtain ⟨x0, x1, x2, x3, x4, _⟩ := frm_facts HX.out
      go_wp2_with fail
      generalize w3.alloc (.cells #[.string ⟨T.toArray⟩, .string ⟨F.toArray⟩, .int .i64 V, .int .i64 K, .string ⟨B.toArray⟩] 25) = w4 at *
      have d0 : w4.drew.cell? ⟨w1.heap.size, 0, none⟩ = some (.string ⟨t.toArray⟩) := by rw [World.cell?_drew]; exact c0
      have d1 : w4.drew.cell? ⟨w1.heap.size, 1, none⟩ = some (.string ⟨f.toArray⟩) := by rw [World.cell?_drew]; exact c1
      have d2 : w4.drew.cell? ⟨w1.heap.size, 2, none⟩ = some (.int .i64 v) := by rw [World.cell?_drew]; exact c2
      have d3 : w4.drew.cell? ⟨w1.heap.size, 3, none⟩ = some (.int .i64 k) := by rw [World.cell?_drew]; exact c3
      have d4 : w4.drew.cell? ⟨w1.heap.size, 4, none⟩ = some (.string ⟨b.toArray⟩) := by rw [World.cell?_drew]; exact c4
      go_region_with (first
          | (go_at_call 12; refine (frame_spec _ _ _ _ _ _).mono ?_; rintro e w9 ⟨rfl, hg⟩; have q0 := hg.cell (a := ⟨w1.heap.size, 0, none⟩) (v := .string ⟨t.toArray⟩) (by assumption) (by simp); have q1 := hg.cell (a := ⟨w1.heap.size, 1, none⟩) (v := .string ⟨f.toArray⟩) (by assumption) (by simp); have q2 := hg.cell (a := ⟨w1.heap.size, 2, none⟩) (v := .int .i64 v) (by assumption) (by simp); have q3 := hg.cell (a := ⟨w1.heap.size, 3, none⟩) (v := .int .i64 k) (by assumption) (by simp); have q4 := hg.cell (a := ⟨w1.heap.size, 4, none⟩) (v := .string ⟨b.toArray⟩) (by assumption) (by simp); have qg : w4.grownBy w9 none := by first | exact grownBy_trans grownBy_drew hg | exact grownBy_trans (by assumption) hg)
          | (go_at_call 13; refine (frame_ok_impl _ _ _ _ _ _).mono ?_; rintro e w9 ⟨rfl, hg⟩; rw [HD.out]; have q0 := hg.cell (a := ⟨w1.heap.size, 0, none⟩) (v := .string ⟨t.toArray⟩) (by assumption) (by simp); have q1 := hg.cell (a := ⟨w1.heap.size, 1, none⟩) (v := .string ⟨f.toArray⟩) (by assumption) (by simp); have q2 := hg.cell (a := ⟨w1.heap.size, 2, none⟩) (v := .int .i64 v) (by assumption) (by simp); have q3 := hg.cell (a := ⟨w1.heap.size, 3, none⟩) (v := .int .i64 k) (by assumption) (by simp); have q4 := hg.cell (a := ⟨w1.heap.size, 4, none⟩) (v := .string ⟨b.toArray⟩) (by assumption) (by simp); have qg : w4.grownBy w9 none := by first | exact grownBy_trans grownBy_drew hg | exact grownBy_trans (by assumption) hg)
          | (go_at_call 14; refine (frame_ok_spec _ _ _ _ _ _).mono ?_; rintro e w9 ⟨rfl, hg⟩; rw [HD.out]; have q0 := hg.cell (a := ⟨w1.heap.size, 0, none⟩) (v := .string ⟨t.toArray⟩) (by assumption) (by simp); have q1 := hg.cell (a := ⟨w1.heap.size, 1, none⟩) (v := .string ⟨f.toArray⟩) (by assumption) (by simp); have q2 := hg.cell (a := ⟨w1.heap.size, 2, none⟩) (v := .int .i64 v) (by assumption) (by simp); have q3 := hg.cell (a := ⟨w1.heap.size, 3, none⟩) (v := .int .i64 k) (by assumption) (by simp); have q4 := hg.cell (a := ⟨w1.heap.size, 4, none⟩) (v := .string ⟨b.toArray⟩) (by assumption) (by simp); have qg : w4.grownBy w9 none := by first | exact grownBy_trans grownBy_drew hg | exact grownBy_trans (by assumption) hg))
      all_goals
        simp only [List.getElem_toArray, List.getElem_cons_zero, List.getElem_cons_succ, Act.put, List.setIfInBounds_toArray, List.set_cons_zero, List.set_cons_succ]
        have hH : w4.grownBy w9 none := qg
        have HG := Lib.hid (grownBy_trans H3.out.grown hH)
        have HK5 := Lib.hid (HK3.out.kept hH)
        clear HK3 hH
        go_wp2_with fail
        refine (draw_rframe _ _ _ _ HK5.out).mono ?_
        rintro e w10 ⟨l, hl, rfl, hg⟩
        have HL := Lib.hid (grownBy_trans HG.out hg)
        obtain ⟨T2, F2, V2, K2, B2, d2, hR⟩ := read_second l (by omega)
        have HR := Lib.hid hR
        clear hg hR HG HK5
        go_wp2_with fail
        refine (HR.out.2.1 _).mono ?_
        rintro e w11 ⟨rfl, hg⟩
        have HM := Lib.hid ((frm_new w11 (.string ⟨T2.toArray⟩) (.string ⟨F2.toArray⟩) (.int .i64 V2) (.int .i64 K2) (.string ⟨B2.toArray⟩) 25).base (grownBy_trans HL.out hg))
        clear hg HL
        go_wp2_with fail
        refine (HR.out.1 _).mono ?_
        rintro e w12 ⟨rfl, hg⟩
        have HM2 := Lib.hid (HM.out.kept hg)
        clear hg HM
        obtain ⟨m0, m1, m2, m3, m4, _⟩ := frm_facts HM2.out
        have hlt2 : w11.heap.size < w12.heap.size := cell_in m0
        cases d2
        · go_wp2_with fail
          go_ret
          exact ⟨rfl, below_new (grownBy_trans HM2.out.grown (World.grownBy_alloc _ _ _))⟩
        · go_wp2_with fail
          refine (frame_impl _ _ _ _ _ _).mono ?_
          rintro e w13 ⟨rfl, hg⟩
          rw [HR.out.2.2 (by first | rfl | trivial)]
          have HG9 := Lib.hid (grownBy_trans HM2.out.grown (grownBy_trans (World.grownBy_alloc _ _ _) hg))
          clear hg
          go_wp2_with fail
          go_ret
          exact ⟨rfl, below_new HG9.out⟩

set_option maxRecDepth 100000 in
theorem lifted (os : Os) (started : os.Started) (H : Type) (enc : TypeId × Value → H) :
    ReturnsInHanded {} Try.checked os 3 .any (Rows.fnFramesSpec.pre6 enc Try.prog Try.f3 Rows.fnFramesRow.domain false) (Rows.fnFramesSpec.post enc Try.prog Try.f3 false true false false) := by
  refine returnsInHanded_of_change (C := Try.checked) own started (by kernel_rfl) Try.func3
    (ChangeSpec.witness6 (enc := enc) (C := Try.checked) false ⟨#[], #[.slice none 0 0], []⟩ 8 (by kernel_rfl) (by kernel_rfl) (by kernel_rfl) (by kernel_rfl)) ?_
  intro W base args ds gs before hval0 hW hcnd _
  have hval : ∀ (j : Nat) t v, Try.f3.params[j]? = some t → args[j]? = some v → Value.okWide Try.prog W .any base t v := hval0
  have hW' := hW
  obtain ⟨p, q, hA0, hV, rfl, hfz, hnd⟩ := hW
  have hA : DataW.TrodAll enc Try.prog W 0 (fun _ => true) true Try.f3.params.toList args.toList ds p := hA0
  rw [Try.params3] at hA hval
  obtain ⟨v0, vs0, d0, ds0, p0, q0, hargs, rfl, rfl, h0, r0⟩ := trodAll_cons hA
  obtain ⟨rfl, rfl, rfl⟩ := trodAll_nil r0
  obtain rfl : args = #[v0] := by cases args; simp_all
  obtain ⟨rfl, rfl⟩ := trodVars_none hV
  have k0 := h0
  have lt0 : ∀ x ∈ p0, x.block < W.heap.size := by obtain ⟨m, hm⟩ := k0; exact DataW.trod_lt m _ _ _ hm
  obtain ⟨a0, len0, cap0, rfl⟩ := okWide_slice Try.underlying22 (hval 0 22 v0 rfl rfl)
  obtain ⟨z0, w0⟩ : ∃ zs, IsRow .u8 W a0 len0 cap0 zs := by
    obtain ⟨fuel, hf⟩ := h0
    rcases open_ints Try.underlying22 Try.underlying5 (by kernel_rfl) hf with ⟨hcs, _⟩ | ⟨x, l, c, zs, hcs, _, hl, hm, hz, _, hcell, hwz⟩
    · simp [Value.cells] at hcs
      obtain ⟨rfl, rfl, rfl⟩ := hcs
      exact ⟨[], .inl ⟨rfl, rfl, rfl, rfl⟩⟩
    · simp [Value.cells] at hcs
      obtain ⟨rfl, rfl, rfl⟩ := hcs
      exact ⟨zs, .inr ⟨_, rfl, hl, hm, by simpa using hz, hcell, hwz⟩⟩
  clear hA0 hval0
  refine (walk a0 len0 cap0 z0 W w0).mono fun e W' ⟨he, bel⟩ => ?_
  subst he
  exact ⟨_, rfl, _, _, _, [], _, [], hW', trodAll_mk1 (shut_bool Try.underlying4 _), (trodAll_cons_mk (Below.trod laidOut (by kernel_rfl) (of_decide_eq_true (by kernel_rfl)) k0 bel lt0) trodAll_mk0), rfl, bel.frame _, fun h => by cases h⟩

theorem over : Rows.fnFramesRow.holds Try.pinned (OpenSpec.ofChange Rows.fnFramesSpec) :=
  OpenClaim.holds_of_wide 3 Try.f3 rfl rfl rfl rfl rfl rfl rfl ⟨rfl, rfl, rfl, rfl, rfl⟩ rfl rfl rfl rfl rfl (by kernel_rfl) Try.func3 (by kernel_rfl)
    (of_decide_eq_true (by kernel_rfl)) (by unfold Func.isWrapper; first | (rw [if_pos (by decide +kernel)]; kernel_rfl) | (rw [if_neg (by decide +kernel)]; exact ⟨rfl, rfl⟩))
    (fun os started H enc _ => lifted os started H enc)

theorem proved : Rows.FnFramesSaid := over
end Go.Proofs.Ytpihfhpdamjefaa.fnFrames
