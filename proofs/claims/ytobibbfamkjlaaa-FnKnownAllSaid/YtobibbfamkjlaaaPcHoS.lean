/- The holes between pieces: the model's. -/
import Derived.Test.YtobibbfamkjlaaaPcHo
namespace Go.Proofs.Ytobibbfamkjlaaa
open Go.RowKit

theorem holes_none (t : Int) : ∀ (l : List Pk) (a : Int), t ≤ a → (∀ p ∈ l, t ≤ p.1) → holesF l a t = []
  | [], a, h, _ => by rw [holesF, hole, if_neg (by omega)]
  | p :: l, a, h, hp => by
    have := hp p (by simp)
    rw [holesF, hole, if_neg (by omega), List.nil_append]
    exact holes_none t l _ (by omega) (fun q hq => hp q (by simp [hq]))
theorem holes_stop {p : Pk} {l : List Pk} {a t : Int} (hg : Good (p :: l)) (h : t ≤ p.1) : holesF (p :: l) a t = hole a t := by
  obtain ⟨_, b, _⟩ := good_cons hg
  rw [holesF, Int.min_eq_right h, holes_none t l _ (by omega) (fun q hq => by have := b q hq; unfold gap at this; omega), List.append_nil]
theorem good_drop : ∀ (j : Nat) {l : List Pk}, Good l → Good (l.drop j)
  | 0, _, h => by simpa using h
  | j + 1, [], h => by simpa using h
  | j + 1, p :: l, h => by
    rw [List.drop_succ_cons]
    exact good_drop j (good_cons h).1

theorem pk_cells {w : World} {b off : Nat} {l : List Pk} (h : PkAt w (some ⟨b, off, none⟩) l) (i : Nat) (hi : i < l.length) : w.cell? ⟨b, off + i * 2, none⟩ = some (.int .i64 (l[i]).1) ∧ w.cell? ⟨b, off + i * 2 + 1, none⟩ = some (.string ⟨(l[i]).2.toArray⟩) := by
  rcases h with h | ⟨b', off', ha, _, hc⟩
  · subst h; simp at hi
  · cases ha; exact hc i hi

set_option maxRecDepth 100000 in
set_option maxHeartbeats 4000000 in
theorem holes_spec (a : Option Addr) (c : Nat) (l : List Pk) (t : Int) (w : World) (h : PkAt w a l) (hl : l.length ≤ 9223372036854775807) : Calls Try.prog 12 #[.slice a l.length c, .int .i64 t] w (HoPost w l t) := by
  obtain ⟨i0, hi, hz0, hz1, hz2⟩ := info_of infoRg
  have H := Lib.hid h
  clear h
  have HA := Lib.hid (World.grownBy_alloc w (.cells #[] 35) none)
  have HN := Lib.hid (World.ownsRow_lit (e := 35) (size := 2) w #[] 0 (Nat.le_refl _) (Nat.zero_le _) rfl)
  cases hok : pcsOk l
  · have HE := Lib.hid (show holesL l t = [] by simp [holesL, hok])
    go_enter Try.func12, Try.ntmps12
    go_wp2_with fail
    refine (ok_spec _ _ _ _ (H.out.kept HA.out) hl).mono ?_
    rintro e w1 ⟨rfl, hg⟩
    rw [hok]
    have HG := Lib.hid hg
    clear hg
    go_wp2_with fail
    go_ret
    refine ⟨_, rfl, grownBy_trans HA.out HG.out, ?_⟩
    rw [HE.out]
    exact own_kept HN.out HG.out
  · cases ht : inB t 0 20000
    · have HE := Lib.hid (show holesL l t = [] by simp only [holesL]; rw [if_neg (fun hh => in_not ht hh.2)])
      go_enter Try.func12, Try.ntmps12
      go_wp2_with fail
      refine (ok_spec _ _ _ _ (H.out.kept HA.out) hl).mono ?_
      rintro e w1 ⟨rfl, hg⟩
      rw [hok]
      have HG := Lib.hid hg
      clear hg
      go_wp2_with (go_at_call 34; refine (in_any _ _ _ _).mono ?_; rintro e w' ⟨rfl, rfl⟩)
      go_ret
      refine ⟨_, rfl, grownBy_trans HA.out HG.out, ?_⟩
      rw [HE.out]
      exact own_kept HN.out HG.out
    · have HE := Lib.hid (show holesL l t = holesF l 0 t by simp only [holesL]; rw [if_pos ⟨hok, (in_of ht).1, (in_of ht).2⟩])
      have HP := Lib.hid (pcs_of hok)
      have hl : l.length ≤ 60 := HP.out.1
      go_enter Try.func12, Try.ntmps12
      go_wp2_with fail
      refine (ok_spec _ _ _ _ (H.out.kept HA.out) (by omega)).mono ?_
      rintro e w1 ⟨rfl, hg⟩
      rw [hok]
      have HG := Lib.hid (And.intro (grownBy_trans HA.out hg) (own_kept HN.out hg))
      clear hg
      go_wp2_with (go_at_call 34; refine (in_any _ _ _ _).mono ?_; rintro e w' ⟨rfl, rfl⟩)
      go_loopw [5, 6, 7] (fun hv a i wr => HoRel w l t hv a i wr) (fun _ _ i _ => l.length - (intOf i).toNat)
      case atStart => exact ⟨0, 0, [], Nat.zero_le _, rfl, rfl, HG.out.1, HG.out.2, rfl, Nat.zero_le _⟩
      case round =>
        obtain ⟨j, at', hs, hj, rfl, rfl, hg, hown, hf, hlen⟩ := hrel
        have HS := Lib.hid (And.intro hg (And.intro hown hf))
        clear hg hown hf
        by_cases hlt : j < l.length
        · rcases (H.out.kept HS.out.1) with h0 | ⟨b, off, rfl, hb, hc⟩
          · rw [h0] at hlt
            simp at hlt
          · obtain ⟨c0, c1⟩ := hc j hlt
            clear hc
            have hlt' : (j : Int) < (l.length : Int) := by omega
            have hpx := HP.out.2.1 _ (List.getElem_mem hlt)
            have HC := Lib.hid (fun (w' : World) (hg : w.grownBy w' none) => pk_cells (H.out.kept hg) j hlt)
            have HD := Lib.hid (And.intro (List.drop_eq_getElem_cons hlt) (good_drop j HP.out.good))
            generalize l[j] = x at *
            obtain ⟨p, m⟩ := x
            obtain ⟨p0, p1, p2, p3⟩ := hpx
            dsimp only at c0 c1 p0 p1 p2 p3 HC
            by_cases hpt : p < t
            · have HF := HS.out.2.2
              rw [HD.out.1, holesF, ← List.append_assoc] at HF
              dsimp only at HF
              rw [Int.min_eq_left (by omega)] at HF
              have HF := Lib.hid HF
              have hw : IntKind.i64.wrap (p + (m.length : Int)) = p + m.length := IntWalk.i64_in _ (by omega)
              by_cases hap : at' < p
              · have HM := Lib.hid (show (hs ++ [(at', p)]) ++ holesF (List.drop (j + 1) l) (p + (m.length : Int)) t = holesF l 0 t by rw [← HF.out, hole, if_pos hap])
                have hjw : wr.heap.size < wr.heap.size + 1 := by omega
                go_wp2_with (at_builtin; refine wpList_append_own _ rfl _ _ 27 rfl w.heap.size 35 i0 _ 2 16 Try.underlying27 hi hz0 hz1 hz2 rfl (by decide) _ _ _ rfl (HS.out.2.1.alloc _) ⟨wr.heap.size, 0, none⟩ 1 1 [.int .i64 at', .int .i64 p] rfl rfl ?c1 ?c2 ?c3 ?c4 ?c5 ?_)
                try (case c1 => exact pair_new wr _ _ _ _ rfl)
                case c2 => simp [Value.oneCell']
                case c3 => unfold maxLen; omega
                case c4 => omega
                case c5 => exact Nat.le_trans HS.out.1.size (by first | (simp; done) | exact (World.grownBy_alloc _ _ none).size)
                intro v' wz hown1 hg1 _
                have HW := Lib.hid (And.intro (grow_own (grownBy_trans HS.out.1 (World.grownBy_alloc _ _ none)) hg1 (HS.out.2.1.alloc _) (Nat.le_refl _)) (show wz.ownsRow w.heap.size 35 2 v' (hs ++ [(at', p)]).length (rgsV (hs ++ [(at', p)])) by
                  rw [rgsV_snoc, List.length_append, List.length_singleton]
                  exact hown1))
                clear hown1 hg1 c0 c1
                obtain ⟨c0, c1⟩ := HC.out wz HW.out.1
                go_wp2_with fail
                go_quiet (fail)
                go_wp2_with fail
                go_roundw
                case rel => exact ⟨j + 1, _, hs ++ [(at', p)], hlt, by go_num, rfl, grownBy_trans HW.out.1 (grownBy_drewN _), own_kept HW.out.2 (grownBy_drewN _), HM.out, by rw [List.length_append, List.length_singleton]; omega⟩
                case measure => simp [intOf]; omega
              · have HM := Lib.hid (show hs ++ holesF (List.drop (j + 1) l) (p + (m.length : Int)) t = holesF l 0 t by rw [← HF.out, hole, if_neg hap, List.append_nil])
                go_wp2_with fail
                go_quiet (fail)
                go_wp2_with fail
                go_roundw
                case rel => exact ⟨j + 1, _, hs, hlt, by go_num, rfl, grownBy_trans HS.out.1 (grownBy_drewN _), own_kept HS.out.2.1 (grownBy_drewN _), HM.out, by omega⟩
                case measure => simp [intOf]; omega
            · have HF := HS.out.2.2
              rw [HD.out.1] at HF
              have hgd := HD.out.2
              rw [HD.out.1] at hgd
              rw [holes_stop hgd (by show t ≤ p; omega)] at HF
              have HF := Lib.hid HF
              clear hgd
              by_cases hat : at' < t
              · have HM := Lib.hid (show hs ++ [(at', t)] = holesF l 0 t by rw [← HF.out, hole, if_pos hat])
                go_wp2_with (at_builtin; refine wpList_append_own _ rfl _ _ 27 rfl w.heap.size 35 i0 _ 2 16 Try.underlying27 hi hz0 hz1 hz2 rfl (by decide) _ _ _ rfl (HS.out.2.1.alloc _) ⟨wr.heap.size, 0, none⟩ 1 1 [.int .i64 at', .int .i64 t] rfl rfl ?c1 ?c2 ?c3 ?c4 ?c5 ?_)
                try (case c1 => exact pair_new wr _ _ _ _ rfl)
                case c2 => simp [Value.oneCell']
                case c3 => unfold maxLen; omega
                case c4 => omega
                case c5 => exact Nat.le_trans HS.out.1.size (by first | (simp; done) | exact (World.grownBy_alloc _ _ none).size)
                intro v' wz hown1 hg1 _
                have HW := Lib.hid (And.intro (grow_own (grownBy_trans HS.out.1 (World.grownBy_alloc _ _ none)) hg1 (HS.out.2.1.alloc _) (Nat.le_refl _)) (show wz.ownsRow w.heap.size 35 2 v' (hs ++ [(at', t)]).length (rgsV (hs ++ [(at', t)])) by
                  rw [rgsV_snoc, List.length_append, List.length_singleton]
                  exact hown1))
                clear hown1 hg1
                go_wp2_with fail
                go_ret
                refine ⟨_, rfl, HW.out.1, ?_⟩
                rw [HE.out, ← HM.out]
                exact HW.out.2
              · have HM := Lib.hid (show hs = holesF l 0 t by rw [← HF.out, hole, if_neg hat, List.append_nil])
                go_wp2_with fail
                go_ret
                refine ⟨_, rfl, HS.out.1, ?_⟩
                rw [HE.out, ← HM.out]
                exact HS.out.2.1
        · obtain rfl : j = l.length := by omega
          have HF := HS.out.2.2
          rw [List.drop_length, holesF] at HF
          have HF := Lib.hid HF
          by_cases hat : at' < t
          · have HM := Lib.hid (show hs ++ [(at', t)] = holesF l 0 t by rw [← HF.out, hole, if_pos hat])
            go_wp2_with (at_builtin; refine wpList_append_own _ rfl _ _ 27 rfl w.heap.size 35 i0 _ 2 16 Try.underlying27 hi hz0 hz1 hz2 rfl (by decide) _ _ _ rfl (HS.out.2.1.alloc _) ⟨wr.heap.size, 0, none⟩ 1 1 [.int .i64 at', .int .i64 t] rfl rfl ?c1 ?c2 ?c3 ?c4 ?c5 ?_)
            try (case c1 => exact pair_new wr _ _ _ _ rfl)
            case c2 => simp [Value.oneCell']
            case c3 => unfold maxLen; omega
            case c4 => omega
            case c5 => exact Nat.le_trans HS.out.1.size (by first | (simp; done) | exact (World.grownBy_alloc _ _ none).size)
            intro v' wz hown1 hg1 _
            have HW := Lib.hid (And.intro (grow_own (grownBy_trans HS.out.1 (World.grownBy_alloc _ _ none)) hg1 (HS.out.2.1.alloc _) (Nat.le_refl _)) (show wz.ownsRow w.heap.size 35 2 v' (hs ++ [(at', t)]).length (rgsV (hs ++ [(at', t)])) by
              rw [rgsV_snoc, List.length_append, List.length_singleton]
              exact hown1))
            clear hown1 hg1
            go_wp2_with fail
            go_ret
            refine ⟨_, rfl, HW.out.1, ?_⟩
            rw [HE.out, ← HM.out]
            exact HW.out.2
          · have HM := Lib.hid (show hs = holesF l 0 t by rw [← HF.out, hole, if_neg hat, List.append_nil])
            go_wp2_with fail
            go_ret
            refine ⟨_, rfl, HS.out.1, ?_⟩
            rw [HE.out, ← HM.out]
            exact HS.out.2.1

end Go.Proofs.Ytobibbfamkjlaaa
