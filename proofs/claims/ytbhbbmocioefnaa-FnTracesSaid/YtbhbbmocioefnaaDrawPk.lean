/- The drawings of packets and of traces; whether two rows of packets are the same. -/
import Derived.Test.YtbhbbmocioefnaaTrcP
namespace Go.Proofs.Ytbhbbmocioefnaa
open Go.RowKit

set_option maxRecDepth 100000 in
set_option maxHeartbeats 1000000 in
theorem same_packets (a b : Option Addr) (c d : Nat) (l : List Pk) (w : World) (h : PkAt w a l) (k : PkAt w b l) (hl : l.length ≤ 1048576) : Calls Try.prog 13 #[.slice a l.length c, .slice b l.length d] w fun e w' => e = .returned (.bool true) ∧ w.grownBy w' none := by
  have H := Lib.hid (And.intro h k)
  clear h k
  go_enter Try.func13, Try.ntmps13
  go_wp2_with fail
  go_loopw [5] (fun i wr => EqRel w l.length i wr) (fun i _ => l.length - (intOf i).toNat)
  case atStart => exact ⟨0, Nat.zero_le _, rfl, World.grownBy.refl _ _⟩
  case round =>
    obtain ⟨j, hj, rfl, hg⟩ := hrel
    have HS := Lib.hid hg
    clear hg
    by_cases hlt : j < l.length
    · rcases (H.out.1.kept HS.out) with h0 | ⟨b1, off1, rfl, hb1, hc⟩
      · rw [h0] at hlt
        simp at hlt
      · rcases (H.out.2.kept HS.out) with h0 | ⟨b2, off2, rfl, hb2, hd⟩
        · rw [h0] at hlt
          simp at hlt
        · obtain ⟨c0, c1⟩ := hc j hlt
          obtain ⟨d0, d1⟩ := hd j hlt
          clear hc hd
          generalize l[j] = x at *
          obtain ⟨t, m⟩ := x
          have hlt' : (j : Int) < (l.length : Int) := by omega
          have hj0 : (0 : Int) ≤ (j : Int) := by omega
          go_wp2_with fail
          go_quiet (fail)
          go_wp2_with fail
          go_roundw
          case rel => exact ⟨j + 1, hlt, by go_num, grownBy_trans HS.out (grownBy_drewN _)⟩
          case measure => simp [intOf]; omega
    · obtain rfl : j = l.length := by omega
      go_wp2_with fail
      go_ret
      exact ⟨rfl, HS.out⟩

theorem wf_wrap (v : Int) : (Lit.int .i64 (IntKind.i64.wrap v)).wf = true := by
  simp [Lit.wf, IntKind.wrap, IntKind.min, IntKind.max, IntKind.signed, IntKind.bits]
  omega

def PkDPost (w : World) (r most : Nat) (e : Ending) (w' : World) : Prop :=
  ∃ (l : List Pk) (v : Value), l.length ≤ most ∧ (∀ x ∈ l, (Lit.int .i64 x.1).wf = true ∧ x.2.length ≤ 9) ∧ e = .returned v ∧ w.grownBy w' (some r) ∧ RdOk w' r ∧ w'.ownsRow w.heap.size 55 2 v l.length (pksV l)
def PkDRel (w : World) (r most : Nat) (v i : Value) (wr : World) : Prop :=
  ∃ (j : Nat) (l : List Pk), j + l.length ≤ most ∧ i = .int .i64 (j : Nat) ∧ (∀ x ∈ l, (Lit.int .i64 x.1).wf = true ∧ x.2.length ≤ 9) ∧ w.grownBy wr (some r) ∧ RdOk wr r ∧ wr.ownsRow w.heap.size 55 2 v l.length (pksV l)

set_option maxRecDepth 100000 in
set_option maxHeartbeats 1000000 in
theorem packets_draw (r most : Nat) (w : World) (h : RdOk w r) (hm : most ≤ 50) : Calls Try.prog 21 #[.pointer (some ⟨r, 0, none⟩), .int .i64 most] w (PkDPost w r most) := by
  obtain ⟨i0, hi, hz0, hz1, hz2⟩ := info_of infoPk
  have hlt := h.lt
  have H := Lib.hid h
  clear h
  go_enter Try.func21, Try.ntmps21
  go_wp2_with fail
  refine (below_any _ _ _ (H.out.alloc _) (by omega)).mono ?_
  rintro e w1 ⟨v, v0, v1, rfl, hg, hr⟩
  obtain ⟨m, rfl⟩ := Int.eq_ofNat_of_zero_le v0
  have hm1 : m ≤ most := by split at v1 <;> omega
  have HG := Lib.hid (And.intro hg hr)
  clear hg hr v0 v1
  go_wp2_with fail
  go_loopw [5, 6] (fun v i wr => PkDRel w r most v i wr) (fun _ i _ => (intOf i).toNat)
  case atStart =>
    refine ⟨m, [], by simpa using hm1, rfl, by simp, grownBy_trans (grown_some (World.grownBy_alloc _ _ none)) HG.out.1, HG.out.2, ?_⟩
    exact (World.ownsRow_lit w #[] 0 (Nat.le_refl _) (Nat.zero_le _) rfl).kept HG.out.1 (.inr (by simp [Value.ownBlock]; omega))
  case round =>
    obtain ⟨j, l, hj, rfl, hL, hg, hr, hown⟩ := hrel
    have HL := Lib.hid hL
    have HS := Lib.hid (And.intro hg (And.intro hr hown))
    have hlr : r < wr.heap.size := hr.lt
    clear hown hg hr hL
    by_cases h0 : j = 0
    · subst h0
      go_wp2_with fail
      go_ret
      exact ⟨l, u5, by omega, HL.out, rfl, HS.out.1, HS.out.2.1, HS.out.2.2⟩
    · obtain ⟨q, rfl⟩ : ∃ q, j = q + 1 := ⟨j - 1, by omega⟩
      clear h0
      have HN := Lib.hid (show u5.ownBlock = none ∨ u5.ownBlock ≠ some r by
        by_cases hn : u5.ownBlock = none
        · exact .inl hn
        · exact .inr fun e => by have := HS.out.2.2.lt r e; omega)
      go_wp2_with fail
      refine (seq_draw _ _ HS.out.2.1).mono ?_
      rintro e w2 ⟨t, ht, rfl, hg, hr⟩
      have H2 := Lib.hid (And.intro hr (And.intro (grownBy_trans HS.out.1 hg) (And.intro (HS.out.2.2.kept hg HN.out) ht.1)))
      clear hg hr ht
      go_wp2_with fail
      refine (bytes_any _ 9 _ H2.out.1 (by omega)).mono ?_
      rintro e w3 ⟨mm, hmm, rfl, hg, hr⟩
      have hT := two_new w3 (.int .i64 t) (.string ⟨mm.toArray⟩) 55
      have hA : w3.grownBy (w3.alloc (.cells #[.int .i64 t, .string ⟨mm.toArray⟩] 55)) none := World.grownBy_alloc _ _ _
      have hown3 := H2.out.2.2.1.kept hg HN.out
      have HE := Lib.hid (show r < w3.heap.size from hr.lt)
      have HE2 := Lib.hid (show w.heap.size ≤ w3.heap.size from (grownBy_trans H2.out.2.1 hg).size)
      have HN2 := Lib.hid (show u5.ownBlock = none ∨ u5.ownBlock ≠ some w3.heap.size by
        by_cases hn : u5.ownBlock = none
        · exact .inl hn
        · exact .inr fun e => by have := (hown3.lt _ e).2; omega)
      have HF := Lib.hid (And.intro hT (And.intro (hr.alloc (.cells #[.int .i64 t, .string ⟨mm.toArray⟩] 55)) (And.intro (grown_trans_none (grownBy_trans H2.out.2.1 hg) hA) (And.intro (hown3.kept hA (by cases u5.ownBlock <;> simp)) H2.out.2.2.2))))
      clear hg hr hT hA hown3
      go_wp2_with fail
      generalize w3.alloc (.cells #[.int .i64 t, .string ⟨mm.toArray⟩] 55) = w4 at *
      generalize w3.heap.size = E at *
      refine (once_any _ _ _ HF.out.2.1 (by omega) (by omega)).mono ?_
      rintro e w5 ⟨b1, rfl, hg, hr⟩
      have hE0 : r < E := HE.out
      have HB0 := Lib.hid (And.intro (HF.out.1.kept hg (by simp; omega)) (And.intro hr (And.intro (grownBy_trans HF.out.2.2.1 hg) (And.intro (HF.out.2.2.2.1.kept hg HN.out) HF.out.2.2.2.2))))
      clear HF hg hr
      cases b1
      · have HF := HB0
        clear HB0
        go_wp2_with fail
        have hE : r < E := HE.out
        refine (once_any _ _ _ HF.out.2.1 (by omega) (by omega)).mono ?_
        rintro e wb1 ⟨bb, rfl, hg, hr⟩
        have HB := Lib.hid (And.intro (HF.out.1.kept hg (by simp; omega)) (And.intro hr (And.intro (grownBy_trans HF.out.2.2.1 hg) (And.intro (HF.out.2.2.2.1.kept hg HN.out) HF.out.2.2.2.2))))
        clear HF hg hr
        cases bb
        · have HF := HB
          clear HB
          have c0 := HF.out.1.a
          have c1 := HF.out.1.b
          go_wp2_with (at_builtin; refine wpList_append_own _ rfl _ _ 24 rfl w.heap.size 55 i0 _ 2 24 Try.underlying24 hi hz0 hz1 hz2 rfl (by decide) _ _ _ rfl (HF.out.2.2.2.1.alloc _) ⟨wb1.heap.size, 0, none⟩ 1 1 [.int .i64 t, .string ⟨mm.toArray⟩] rfl rfl ?c1 ?c2 ?c3 ?c4 ?c5 ?_)
          case c1 => exact cell_two_new wb1 _ _ _ _ rfl
          case c2 => simp [Value.oneCell']
          case c3 => unfold maxLen; omega
          case c4 => omega
          case c5 => exact Nat.le_trans HF.out.2.2.1.size (World.grownBy_alloc _ _ none).size
          intro v' wz hown1 hg1 _
          have hnr : u5.ownBlock ≠ some r := fun e => by have := HS.out.2.2.lt r e; omega
          have HW := Lib.hid (And.intro (grown_row (grownBy_trans HF.out.2.2.1 (grown_some (World.grownBy_alloc _ _ none))) hg1 (HF.out.2.2.2.1.alloc _)) (And.intro (((HF.out.2.1.alloc _).kept hg1 (fun e => hnr e.symm) (fun k e => by have := HS.out.2.2.lt k e; omega))) (show wz.ownsRow w.heap.size 55 2 v' (l ++ [(t, mm)]).length (pksV (l ++ [(t, mm)])) by
            have e1 : pksV (l ++ [(t, mm)]) = pksV l ++ [.int .i64 t, .string ⟨mm.toArray⟩] := by simp [pksV, pkV]
            rw [e1, List.length_append, List.length_singleton]
            exact hown1)))
          clear hown1 hg1
          go_wp2_with fail
          go_roundw
          case rel =>
            refine ⟨q, l ++ [(t, mm)], by simp; omega, by go_num, fun x hx => ?_, HW.out.1, HW.out.2.1, HW.out.2.2⟩
            rcases List.mem_append.mp hx with hx | hx
            · exact HL.out x hx
            · rw [List.mem_singleton.mp hx]
              exact ⟨HF.out.2.2.2.2, hmm⟩
          case measure => simp [intOf]
        · have e0 := HB.out.1.a
          have ef := HB.out.1.f
          go_wp2_with fail
          refine (off_any _ _ _ _ HB.out.2.1 (by omega) (by omega) (by omega)).mono ?_
          rintro e wc1 ⟨x, hx, rfl, hg, hr⟩
          have hT := HB.out.1.kept hg (by simp; omega)
          have hS : wc1.grownBy (wc1.setCell ⟨E, 0, none⟩ (.int .i64 x)) (some E) := grownBy_set _ _ _ _
          have g0 := hT.a
          have g1 := hT.b
          have gf := hT.f
          have gg := hT.g
          have hown := HB.out.2.2.2.1.kept hg HN.out
          have HF := Lib.hid (And.intro (show Two (wc1.setCell ⟨E, 0, none⟩ (.int .i64 x)) E (.int .i64 x) (.string ⟨mm.toArray⟩) from ⟨by go_simp, by go_simp, by go_simp, by go_simp⟩) (And.intro (hr.other2 hS (by simp; omega) hE) (And.intro (grown_other (grownBy_trans HB.out.2.2.1 hg) hS (by have := HE2.out; omega)) (And.intro (hown.kept hS HN2.out) hx.1))))
          clear hg hr hT hS hown e0 ef HB
          go_wp2_with (at_builtin; refine wpList_append_own _ rfl _ _ 24 rfl w.heap.size 55 i0 _ 2 24 Try.underlying24 hi hz0 hz1 hz2 rfl (by decide) _ _ _ rfl (HF.out.2.2.2.1.alloc _) ⟨wc1.heap.size, 0, none⟩ 1 1 [.int .i64 x, .string ⟨mm.toArray⟩] rfl rfl ?c1 ?c2 ?c3 ?c4 ?c5 ?_)
          case c1 => exact cell_two_new (wc1.setCell ⟨E, 0, none⟩ (.int .i64 x)) _ _ _ _ (by simp)
          case c2 => simp [Value.oneCell']
          case c3 => unfold maxLen; omega
          case c4 => omega
          case c5 => exact Nat.le_trans HF.out.2.2.1.size (World.grownBy_alloc _ _ none).size
          intro v' wz hown1 hg1 _
          have hnr : u5.ownBlock ≠ some r := fun e => by have := HS.out.2.2.lt r e; omega
          have HW := Lib.hid (And.intro (grown_row (grownBy_trans HF.out.2.2.1 (grown_some (World.grownBy_alloc _ _ none))) hg1 (HF.out.2.2.2.1.alloc _)) (And.intro (((HF.out.2.1.alloc _).kept hg1 (fun e => hnr e.symm) (fun k e => by have := HS.out.2.2.lt k e; omega))) (show wz.ownsRow w.heap.size 55 2 v' (l ++ [(x, mm)]).length (pksV (l ++ [(x, mm)])) by
            have e1 : pksV (l ++ [(x, mm)]) = pksV l ++ [.int .i64 x, .string ⟨mm.toArray⟩] := by simp [pksV, pkV]
            rw [e1, List.length_append, List.length_singleton]
            exact hown1)))
          clear hown1 hg1
          go_wp2_with fail
          go_roundw
          case rel =>
            refine ⟨q, l ++ [(x, mm)], by simp; omega, by go_num, fun x hx => ?_, HW.out.1, HW.out.2.1, HW.out.2.2⟩
            rcases List.mem_append.mp hx with hx | hx
            · exact HL.out x hx
            · rw [List.mem_singleton.mp hx]
              exact ⟨HF.out.2.2.2.2, hmm⟩
          case measure => simp [intOf]
      · have c0 := HB0.out.1.a
        have c1 := HB0.out.1.b
        have cf := HB0.out.1.f
        have cg := HB0.out.1.g
        go_wp2_with fail
        have d0 : w5.drew.cell? ⟨E, 0, none⟩ = some (.int .i64 t) := c0
        have df : w5.drew.frozen? ⟨E, 0, none⟩ = false := cf
        refine wp_region_held_drew (S := fun _ => True) (by kernel_rfl) trivial (fun _ => ?_)
        refine wpAnyH_take (i := 0) (v := .pointer (some ⟨E, 0, none⟩)) rfl (by decide +kernel) (by decide +kernel) (by decide +kernel) (fun _ _ _ h => h) (Or.inl ⟨by rfl, ?_⟩) trivial ?_
        · intro w' _
          go_simp
        refine wpAnyH_take (i := 2) (v := .pointer (some ⟨r, 0, none⟩)) rfl (by decide +kernel) (by decide +kernel) (by decide +kernel) (fun _ _ _ h => h) (Or.inl ⟨by rfl, ?_⟩) trivial ?_
        · intro w' _
          go_simp
        refine wpAnyH_ready (rs := [1, 3]) (by decide +kernel) (List.cons_ne_nil _ _) ?_
        refine AllReadyH.cons rfl (fun K hK => ?_) (AllReadyH.cons rfl (fun K hK => ?_) AllReadyH.nil)
        · go_simp
          refine hK.out _ _ trivial (fun _ => ?_)
          clear hK K
          refine wpAnyH_ready (rs := [3]) (by decide +kernel) (List.cons_ne_nil _ _) ?_
          refine AllReadyH.cons rfl (fun K hK => ?_) AllReadyH.nil
          go_simp
          go_at_call 50
          refine (below_any _ _ _ HB0.out.2.1.drew (by omega)).mono ?_
          rintro e w6 ⟨y, y0, y1, rfl, hg, hr⟩
          rw [if_neg (by omega)] at y1
          have hyw : IntKind.i64.wrap (4294967296 * y) = 4294967296 * y := IntWalk.i64_in _ (by omega)
          have T6 := (HB0.out.1.kept (grownBy_drew (r := none)) (by simp)).kept hg (by simp; omega)
          have t0 := T6.a
          have tf := T6.f
          have ts := T6.b
          have tg := T6.g
          refine hK.out _ _ trivial (fun _ => ?_)
          clear hK K
          refine wpAnyH_ready (rs := [4]) (by decide +kernel) (List.cons_ne_nil _ _) ?_
          refine AllReadyH.cons rfl (fun K hK => ?_) AllReadyH.nil
          go_simp
          refine hK.out _ _ trivial (fun _ => ?_)
          clear hK K
          refine wpAnyH_ready (rs := [5]) (by decide +kernel) (List.cons_ne_nil _ _) ?_
          refine AllReadyH.cons rfl (fun K hK => ?_) AllReadyH.nil
          go_simp
          refine hK.out _ _ trivial (fun _ => ?_)
          clear hK K
          refine wpAnyH_ready (rs := [6]) (by decide +kernel) (List.cons_ne_nil _ _) ?_
          refine AllReadyH.cons rfl (fun K hK => ?_) AllReadyH.nil
          go_simp
          refine hK.out _ _ trivial (fun _ => ?_)
          clear hK K
          refine wpAnyH_ready (rs := [7]) (by decide +kernel) (List.cons_ne_nil _ _) ?_
          refine AllReadyH.cons rfl (fun K hK => ?_) AllReadyH.nil
          go_simp
          refine hK.out _ _ trivial (fun _ => ?_)
          clear hK K
          refine wpAnyH_done (by decide +kernel) ?_ _
          have hS : w6.grownBy (w6.setCell ⟨E, 0, none⟩ (.int .i64 (IntKind.i64.wrap (t + 4294967296 * y)))) (some E) := grownBy_set _ _ _ _
          have hown := (HB0.out.2.2.2.1.kept (grownBy_drew (r := none)) (by cases u5.ownBlock <;> simp)).kept hg HN.out
          have HF := Lib.hid (And.intro (show Two (w6.setCell ⟨E, 0, none⟩ (.int .i64 (IntKind.i64.wrap (t + 4294967296 * y)))) E (.int .i64 (IntKind.i64.wrap (t + 4294967296 * y))) (.string ⟨mm.toArray⟩) from ⟨by go_simp, by go_simp, by go_simp, by go_simp⟩) (And.intro (hr.other2 hS (by simp; omega) hE0) (And.intro (grown_other (grownBy_trans (grown_trans_none HB0.out.2.2.1 grownBy_drew) hg) hS (by have := HE2.out; omega)) (And.intro (hown.kept hS HN2.out) (wf_wrap (t + 4294967296 * y))))))
          clear hg hr T6 t0 tf ts tg hS hown hyw y0 y1 c0 c1 cf cg d0 df
          generalize w6.setCell ⟨E, 0, none⟩ (.int .i64 (IntKind.i64.wrap (t + 4294967296 * y))) = w7 at *
          generalize IntKind.i64.wrap (t + 4294967296 * y) = T at *
          clear HB0
          go_wp2_with fail
          have hE : r < E := HE.out
          refine (once_any _ _ _ HF.out.2.1 (by omega) (by omega)).mono ?_
          rintro e wb2 ⟨bb, rfl, hg, hr⟩
          have HB := Lib.hid (And.intro (HF.out.1.kept hg (by simp; omega)) (And.intro hr (And.intro (grownBy_trans HF.out.2.2.1 hg) (And.intro (HF.out.2.2.2.1.kept hg HN.out) HF.out.2.2.2.2))))
          clear HF hg hr
          cases bb
          · have HF := HB
            clear HB
            have c0 := HF.out.1.a
            have c1 := HF.out.1.b
            go_wp2_with (at_builtin; refine wpList_append_own _ rfl _ _ 24 rfl w.heap.size 55 i0 _ 2 24 Try.underlying24 hi hz0 hz1 hz2 rfl (by decide) _ _ _ rfl (HF.out.2.2.2.1.alloc _) ⟨wb2.heap.size, 0, none⟩ 1 1 [.int .i64 T, .string ⟨mm.toArray⟩] rfl rfl ?c1 ?c2 ?c3 ?c4 ?c5 ?_)
            case c1 => exact cell_two_new wb2 _ _ _ _ rfl
            case c2 => simp [Value.oneCell']
            case c3 => unfold maxLen; omega
            case c4 => omega
            case c5 => exact Nat.le_trans HF.out.2.2.1.size (World.grownBy_alloc _ _ none).size
            intro v' wz hown1 hg1 _
            have hnr : u5.ownBlock ≠ some r := fun e => by have := HS.out.2.2.lt r e; omega
            have HW := Lib.hid (And.intro (grown_row (grownBy_trans HF.out.2.2.1 (grown_some (World.grownBy_alloc _ _ none))) hg1 (HF.out.2.2.2.1.alloc _)) (And.intro (((HF.out.2.1.alloc _).kept hg1 (fun e => hnr e.symm) (fun k e => by have := HS.out.2.2.lt k e; omega))) (show wz.ownsRow w.heap.size 55 2 v' (l ++ [(T, mm)]).length (pksV (l ++ [(T, mm)])) by
              have e1 : pksV (l ++ [(T, mm)]) = pksV l ++ [.int .i64 T, .string ⟨mm.toArray⟩] := by simp [pksV, pkV]
              rw [e1, List.length_append, List.length_singleton]
              exact hown1)))
            clear hown1 hg1
            go_wp2_with fail
            go_roundw
            case rel =>
              refine ⟨q, l ++ [(T, mm)], by simp; omega, by go_num, fun x hx => ?_, HW.out.1, HW.out.2.1, HW.out.2.2⟩
              rcases List.mem_append.mp hx with hx | hx
              · exact HL.out x hx
              · rw [List.mem_singleton.mp hx]
                exact ⟨HF.out.2.2.2.2, hmm⟩
            case measure => simp [intOf]
          · have e0 := HB.out.1.a
            have ef := HB.out.1.f
            go_wp2_with fail
            refine (off_any _ _ _ _ HB.out.2.1 (by omega) (by omega) (by omega)).mono ?_
            rintro e wc2 ⟨x, hx, rfl, hg, hr⟩
            have hT := HB.out.1.kept hg (by simp; omega)
            have hS : wc2.grownBy (wc2.setCell ⟨E, 0, none⟩ (.int .i64 x)) (some E) := grownBy_set _ _ _ _
            have g0 := hT.a
            have g1 := hT.b
            have gf := hT.f
            have gg := hT.g
            have hown := HB.out.2.2.2.1.kept hg HN.out
            have HF := Lib.hid (And.intro (show Two (wc2.setCell ⟨E, 0, none⟩ (.int .i64 x)) E (.int .i64 x) (.string ⟨mm.toArray⟩) from ⟨by go_simp, by go_simp, by go_simp, by go_simp⟩) (And.intro (hr.other2 hS (by simp; omega) hE) (And.intro (grown_other (grownBy_trans HB.out.2.2.1 hg) hS (by have := HE2.out; omega)) (And.intro (hown.kept hS HN2.out) hx.1))))
            clear hg hr hT hS hown e0 ef HB
            go_wp2_with (at_builtin; refine wpList_append_own _ rfl _ _ 24 rfl w.heap.size 55 i0 _ 2 24 Try.underlying24 hi hz0 hz1 hz2 rfl (by decide) _ _ _ rfl (HF.out.2.2.2.1.alloc _) ⟨wc2.heap.size, 0, none⟩ 1 1 [.int .i64 x, .string ⟨mm.toArray⟩] rfl rfl ?c1 ?c2 ?c3 ?c4 ?c5 ?_)
            case c1 => exact cell_two_new (wc2.setCell ⟨E, 0, none⟩ (.int .i64 x)) _ _ _ _ (by simp)
            case c2 => simp [Value.oneCell']
            case c3 => unfold maxLen; omega
            case c4 => omega
            case c5 => exact Nat.le_trans HF.out.2.2.1.size (World.grownBy_alloc _ _ none).size
            intro v' wz hown1 hg1 _
            have hnr : u5.ownBlock ≠ some r := fun e => by have := HS.out.2.2.lt r e; omega
            have HW := Lib.hid (And.intro (grown_row (grownBy_trans HF.out.2.2.1 (grown_some (World.grownBy_alloc _ _ none))) hg1 (HF.out.2.2.2.1.alloc _)) (And.intro (((HF.out.2.1.alloc _).kept hg1 (fun e => hnr e.symm) (fun k e => by have := HS.out.2.2.lt k e; omega))) (show wz.ownsRow w.heap.size 55 2 v' (l ++ [(x, mm)]).length (pksV (l ++ [(x, mm)])) by
              have e1 : pksV (l ++ [(x, mm)]) = pksV l ++ [.int .i64 x, .string ⟨mm.toArray⟩] := by simp [pksV, pkV]
              rw [e1, List.length_append, List.length_singleton]
              exact hown1)))
            clear hown1 hg1
            go_wp2_with fail
            go_roundw
            case rel =>
              refine ⟨q, l ++ [(x, mm)], by simp; omega, by go_num, fun x hx => ?_, HW.out.1, HW.out.2.1, HW.out.2.2⟩
              rcases List.mem_append.mp hx with hx | hx
              · exact HL.out x hx
              · rw [List.mem_singleton.mp hx]
                exact ⟨HF.out.2.2.2.2, hmm⟩
            case measure => simp [intOf]
        · go_simp
          go_at_call 50
          refine (below_any _ _ _ HB0.out.2.1.drew (by omega)).mono ?_
          rintro e w6 ⟨y, y0, y1, rfl, hg, hr⟩
          rw [if_neg (by omega)] at y1
          have hyw : IntKind.i64.wrap (4294967296 * y) = 4294967296 * y := IntWalk.i64_in _ (by omega)
          have T6 := (HB0.out.1.kept (grownBy_drew (r := none)) (by simp)).kept hg (by simp; omega)
          have t0 := T6.a
          have tf := T6.f
          have ts := T6.b
          have tg := T6.g
          refine hK.out _ _ trivial (fun _ => ?_)
          clear hK K
          refine wpAnyH_take (i := 4) (v := .int .i64 (4294967296 * y)) rfl (by decide +kernel) (by decide +kernel) (by decide +kernel) (fun _ _ _ h => h) (Or.inl ⟨by rfl, ?_⟩) trivial ?_
          · intro w' _
            go_simp
          refine wpAnyH_ready (rs := [1]) (by decide +kernel) (List.cons_ne_nil _ _) ?_
          refine AllReadyH.cons rfl (fun K hK => ?_) AllReadyH.nil
          go_simp
          refine hK.out _ _ trivial (fun _ => ?_)
          clear hK K
          refine wpAnyH_ready (rs := [5]) (by decide +kernel) (List.cons_ne_nil _ _) ?_
          refine AllReadyH.cons rfl (fun K hK => ?_) AllReadyH.nil
          go_simp
          refine hK.out _ _ trivial (fun _ => ?_)
          clear hK K
          refine wpAnyH_ready (rs := [6]) (by decide +kernel) (List.cons_ne_nil _ _) ?_
          refine AllReadyH.cons rfl (fun K hK => ?_) AllReadyH.nil
          go_simp
          refine hK.out _ _ trivial (fun _ => ?_)
          clear hK K
          refine wpAnyH_ready (rs := [7]) (by decide +kernel) (List.cons_ne_nil _ _) ?_
          refine AllReadyH.cons rfl (fun K hK => ?_) AllReadyH.nil
          go_simp
          refine hK.out _ _ trivial (fun _ => ?_)
          clear hK K
          refine wpAnyH_done (by decide +kernel) ?_ _
          have hS : w6.grownBy (w6.setCell ⟨E, 0, none⟩ (.int .i64 (IntKind.i64.wrap (t + 4294967296 * y)))) (some E) := grownBy_set _ _ _ _
          have hown := (HB0.out.2.2.2.1.kept (grownBy_drew (r := none)) (by cases u5.ownBlock <;> simp)).kept hg HN.out
          have HF := Lib.hid (And.intro (show Two (w6.setCell ⟨E, 0, none⟩ (.int .i64 (IntKind.i64.wrap (t + 4294967296 * y)))) E (.int .i64 (IntKind.i64.wrap (t + 4294967296 * y))) (.string ⟨mm.toArray⟩) from ⟨by go_simp, by go_simp, by go_simp, by go_simp⟩) (And.intro (hr.other2 hS (by simp; omega) hE0) (And.intro (grown_other (grownBy_trans (grown_trans_none HB0.out.2.2.1 grownBy_drew) hg) hS (by have := HE2.out; omega)) (And.intro (hown.kept hS HN2.out) (wf_wrap (t + 4294967296 * y))))))
          clear hg hr T6 t0 tf ts tg hS hown hyw y0 y1 c0 c1 cf cg d0 df
          generalize w6.setCell ⟨E, 0, none⟩ (.int .i64 (IntKind.i64.wrap (t + 4294967296 * y))) = w7 at *
          generalize IntKind.i64.wrap (t + 4294967296 * y) = T at *
          clear HB0
          go_wp2_with fail
          have hE : r < E := HE.out
          refine (once_any _ _ _ HF.out.2.1 (by omega) (by omega)).mono ?_
          rintro e wb3 ⟨bb, rfl, hg, hr⟩
          have HB := Lib.hid (And.intro (HF.out.1.kept hg (by simp; omega)) (And.intro hr (And.intro (grownBy_trans HF.out.2.2.1 hg) (And.intro (HF.out.2.2.2.1.kept hg HN.out) HF.out.2.2.2.2))))
          clear HF hg hr
          cases bb
          · have HF := HB
            clear HB
            have c0 := HF.out.1.a
            have c1 := HF.out.1.b
            go_wp2_with (at_builtin; refine wpList_append_own _ rfl _ _ 24 rfl w.heap.size 55 i0 _ 2 24 Try.underlying24 hi hz0 hz1 hz2 rfl (by decide) _ _ _ rfl (HF.out.2.2.2.1.alloc _) ⟨wb3.heap.size, 0, none⟩ 1 1 [.int .i64 T, .string ⟨mm.toArray⟩] rfl rfl ?c1 ?c2 ?c3 ?c4 ?c5 ?_)
            case c1 => exact cell_two_new wb3 _ _ _ _ rfl
            case c2 => simp [Value.oneCell']
            case c3 => unfold maxLen; omega
            case c4 => omega
            case c5 => exact Nat.le_trans HF.out.2.2.1.size (World.grownBy_alloc _ _ none).size
            intro v' wz hown1 hg1 _
            have hnr : u5.ownBlock ≠ some r := fun e => by have := HS.out.2.2.lt r e; omega
            have HW := Lib.hid (And.intro (grown_row (grownBy_trans HF.out.2.2.1 (grown_some (World.grownBy_alloc _ _ none))) hg1 (HF.out.2.2.2.1.alloc _)) (And.intro (((HF.out.2.1.alloc _).kept hg1 (fun e => hnr e.symm) (fun k e => by have := HS.out.2.2.lt k e; omega))) (show wz.ownsRow w.heap.size 55 2 v' (l ++ [(T, mm)]).length (pksV (l ++ [(T, mm)])) by
              have e1 : pksV (l ++ [(T, mm)]) = pksV l ++ [.int .i64 T, .string ⟨mm.toArray⟩] := by simp [pksV, pkV]
              rw [e1, List.length_append, List.length_singleton]
              exact hown1)))
            clear hown1 hg1
            go_wp2_with fail
            go_roundw
            case rel =>
              refine ⟨q, l ++ [(T, mm)], by simp; omega, by go_num, fun x hx => ?_, HW.out.1, HW.out.2.1, HW.out.2.2⟩
              rcases List.mem_append.mp hx with hx | hx
              · exact HL.out x hx
              · rw [List.mem_singleton.mp hx]
                exact ⟨HF.out.2.2.2.2, hmm⟩
            case measure => simp [intOf]
          · have e0 := HB.out.1.a
            have ef := HB.out.1.f
            go_wp2_with fail
            refine (off_any _ _ _ _ HB.out.2.1 (by omega) (by omega) (by omega)).mono ?_
            rintro e wc3 ⟨x, hx, rfl, hg, hr⟩
            have hT := HB.out.1.kept hg (by simp; omega)
            have hS : wc3.grownBy (wc3.setCell ⟨E, 0, none⟩ (.int .i64 x)) (some E) := grownBy_set _ _ _ _
            have g0 := hT.a
            have g1 := hT.b
            have gf := hT.f
            have gg := hT.g
            have hown := HB.out.2.2.2.1.kept hg HN.out
            have HF := Lib.hid (And.intro (show Two (wc3.setCell ⟨E, 0, none⟩ (.int .i64 x)) E (.int .i64 x) (.string ⟨mm.toArray⟩) from ⟨by go_simp, by go_simp, by go_simp, by go_simp⟩) (And.intro (hr.other2 hS (by simp; omega) hE) (And.intro (grown_other (grownBy_trans HB.out.2.2.1 hg) hS (by have := HE2.out; omega)) (And.intro (hown.kept hS HN2.out) hx.1))))
            clear hg hr hT hS hown e0 ef HB
            go_wp2_with (at_builtin; refine wpList_append_own _ rfl _ _ 24 rfl w.heap.size 55 i0 _ 2 24 Try.underlying24 hi hz0 hz1 hz2 rfl (by decide) _ _ _ rfl (HF.out.2.2.2.1.alloc _) ⟨wc3.heap.size, 0, none⟩ 1 1 [.int .i64 x, .string ⟨mm.toArray⟩] rfl rfl ?c1 ?c2 ?c3 ?c4 ?c5 ?_)
            case c1 => exact cell_two_new (wc3.setCell ⟨E, 0, none⟩ (.int .i64 x)) _ _ _ _ (by simp)
            case c2 => simp [Value.oneCell']
            case c3 => unfold maxLen; omega
            case c4 => omega
            case c5 => exact Nat.le_trans HF.out.2.2.1.size (World.grownBy_alloc _ _ none).size
            intro v' wz hown1 hg1 _
            have hnr : u5.ownBlock ≠ some r := fun e => by have := HS.out.2.2.lt r e; omega
            have HW := Lib.hid (And.intro (grown_row (grownBy_trans HF.out.2.2.1 (grown_some (World.grownBy_alloc _ _ none))) hg1 (HF.out.2.2.2.1.alloc _)) (And.intro (((HF.out.2.1.alloc _).kept hg1 (fun e => hnr e.symm) (fun k e => by have := HS.out.2.2.lt k e; omega))) (show wz.ownsRow w.heap.size 55 2 v' (l ++ [(x, mm)]).length (pksV (l ++ [(x, mm)])) by
              have e1 : pksV (l ++ [(x, mm)]) = pksV l ++ [.int .i64 x, .string ⟨mm.toArray⟩] := by simp [pksV, pkV]
              rw [e1, List.length_append, List.length_singleton]
              exact hown1)))
            clear hown1 hg1
            go_wp2_with fail
            go_roundw
            case rel =>
              refine ⟨q, l ++ [(x, mm)], by simp; omega, by go_num, fun x hx => ?_, HW.out.1, HW.out.2.1, HW.out.2.2⟩
              rcases List.mem_append.mp hx with hx | hx
              · exact HL.out x hx
              · rw [List.mem_singleton.mp hx]
                exact ⟨HF.out.2.2.2.2, hmm⟩
            case measure => simp [intOf]

end Go.Proofs.Ytbhbbmocioefnaa
