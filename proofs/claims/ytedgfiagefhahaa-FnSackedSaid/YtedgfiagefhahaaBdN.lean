/- What is told to be there: the model's board behind it. -/
import Derived.Test.YtedgfiagefhahaaBdM
namespace Go.Proofs.Ytedgfiagefhahaa
open Go.RowKit

def SsRel (w : World) (S O : Nat) (u n : Int) (a : Option Addr) (c : Nat) (l ms : List Rg) (i : Value) (wr : World) : Prop :=
  ∃ (j : Nat) (ao : Option Addr) (cc : Nat), j ≤ ms.length ∧ i = .int .i64 (j : Int) ∧ Mine w (bdCells w.heap.size (.int .i64 u) (.int .i64 n) (.slice a l.length c) ++ bdCells (w.heap.size + 1) (.int .i64 0) (.int .i64 0) (.slice none 0 0) ++ bdCells O (.int .i64 u) (.int .i64 n) (.slice ao (sackF u n l (ms.take j)).length cc)) wr ∧ OwnRg wr S ao cc (sackF u n l (ms.take j)) ∧ (∀ g, Value.ownBlock (.slice ao (sackF u n l (ms.take j)).length cc) = some g → g ≠ O)

set_option maxRecDepth 100000 in
set_option maxHeartbeats 8000000 in
theorem sack_spec (u n : Int) (a : Option Addr) (c : Nat) (l : List Rg) (a2 : Option Addr) (c2 : Nat) (ms : List Rg) (w : World) (h : RowOk w a c l) (hl0 : l.length ≤ 9223372036854775807) (hm : RgAt w a2 ms) (hml : ms.length ≤ 9223372036854775807) :
    Calls Try.prog 23 #[bdV u n a l.length c, .slice a2 ms.length c2] w (BdPost w (sackL u n l ms)) := by
  have hM := bd_two w (.int .i64 u) (.int .i64 n) (.slice a l.length c) (.int .i64 0) (.int .i64 0) (.slice none 0 0) 26 26
  have HM := Lib.hid (And.intro hM (And.intro (h.kept hM.grown) hm))
  clear hM h hm
  cases hok : bdOk u n l
  · have HN := Lib.hid (show sackL u n l ms = noBd from sackL_no (by rw [hok]; simp))
    have HK := Lib.hid hok
    clear hok
    go_enter Try.func23, Try.ntmps23
    go_wp2_with fail
    refine (bd_ok_spec _ _ _ _ _ _ HM.out.2.1.at hl0).mono ?_
    rintro e w3 ⟨rfl, hg⟩
    rw [HK.out]
    have H3 := Lib.hid (HM.out.1.kept hg)
    clear hg
    obtain ⟨b0, b1, b2⟩ := bd_facts H3.out.left
    obtain ⟨r0, r1, r2⟩ := bd_facts H3.out.right
    obtain ⟨f0, f1, f2⟩ := bd_frees H3.out.right
    go_wp2_with fail
    have hgr := res3_grown (R := w.heap.size + 1) (.int .i64 0) (.int .i64 0) (.slice none 0 0) H3.out.grown (by omega)
    refine bodyPost_ret (v := .tuple #[bdV 0 0 none 0 0, .bool false]) ?_ rfl (bd_as HN.out ⟨none, 0, rfl, hgr, own_none _ _⟩)
    simp [results, Try.results23, go_sem, r0, r1, r2]
  · have hp := bd_of hok
    have hl := hp.2.2.2.1
    have hu0 := hp.1
    have hun := hp.2.1
    have hn9 := hp.2.2.1
    have HP := Lib.hid hp
    have HK := Lib.hid hok
    clear hok hp
    by_cases h3 : 3 < ms.length
    · have h3' : 3 < (ms.length : Int) := by omega
      have HN := Lib.hid (show sackL u n l ms = noBd from sackL_no (fun h => by have := h.2.1; omega))
      go_enter Try.func23, Try.ntmps23
      go_wp2_with fail
      refine (bd_ok_spec _ _ _ _ _ _ HM.out.2.1.at hl0).mono ?_
      rintro e w3 ⟨rfl, hg⟩
      rw [HK.out]
      have H3 := Lib.hid (HM.out.1.kept hg)
      clear hg
      obtain ⟨b0, b1, b2⟩ := bd_facts H3.out.left
      obtain ⟨r0, r1, r2⟩ := bd_facts H3.out.right
      obtain ⟨f0, f1, f2⟩ := bd_frees H3.out.right
      go_wp2_with fail
      have hgr := res3_grown (R := w.heap.size + 1) (.int .i64 0) (.int .i64 0) (.slice none 0 0) H3.out.grown (by omega)
      refine bodyPost_ret (v := .tuple #[bdV 0 0 none 0 0, .bool false]) ?_ rfl (bd_as HN.out ⟨none, 0, rfl, hgr, own_none _ _⟩)
      simp [results, Try.results23, go_sem, r0, r1, r2]
    · have h3' : ¬ 3 < (ms.length : Int) := by omega
      have hw1 : IntKind.i64.wrap (u + 1) = u + 1 := IntWalk.i64_in _ (by omega)
      have hw2 : IntKind.i64.wrap (n - 1) = n - 1 := IntWalk.i64_in _ (by omega)
      go_enter Try.func23, Try.ntmps23
      go_wp2_with fail
      refine (bd_ok_spec _ _ _ _ _ _ HM.out.2.1.at hl0).mono ?_
      rintro e w3 ⟨rfl, hg⟩
      rw [HK.out]
      have H3 := Lib.hid (And.intro (HM.out.1.kept hg) (HM.out.2.1.kept hg))
      have s3 : w.heap.size + 1 < w3.heap.size := cell_in (bd_facts (HM.out.1.kept hg).right).1
      clear hg
      obtain ⟨b0, b1, b2⟩ := bd_facts H3.out.1.left
      go_wp2_with fail
      refine (copy_any _ _ _ _ _ _ H3.out.2 (by omega)).mono ?_
      rintro e w4 ⟨ao, cc, rfl, hg, ho⟩
      have hM4 := H3.out.1.kept hg
      have hO := bd_new w4 (.int .i64 u) (.int .i64 n) (.slice ao l.length cc) 26
      have s4 : w3.heap.size ≤ w4.heap.size := hg.size
      have H5 := Lib.hid (And.intro ((hM4.kept hO.grown).app (hO.base hM4.grown)) (And.intro (own_kept ho hO.grown) (fun g (e : Value.ownBlock (.slice ao l.length cc) = some g) => Nat.ne_of_lt (ho.lt g e).2)))
      clear hg ho b0 b1 b2 hM4 hO
      go_wp2_with fail
      generalize hw5 : w4.alloc (.cells #[.int .i64 u, .int .i64 n, .slice ao l.length cc] 26) = w5 at *
      clear hw5
      go_loopw [7] (fun i wr => SsRel w w3.heap.size w4.heap.size u n a c l ms i wr) (fun i _ => ms.length - (intOf i).toNat)
      case atStart => exact ⟨0, ao, cc, Nat.zero_le _, rfl, H5.out.1, H5.out.2.1, H5.out.2.2⟩
      case round =>
        clear H5
        obtain ⟨j, ao, cc, hj, rfl, hm, ho, hne⟩ := hrel
        have HS := Lib.hid (And.intro hm (And.intro ho hne))
        clear hm ho hne
        obtain ⟨b0, b1, b2⟩ := bd_facts HS.out.1.left.left
        obtain ⟨o0, o1, o2⟩ := bd_facts HS.out.1.right
        have hB : w.heap.size < wr.heap.size := cell_in b0
        have hB4 : w4.heap.size < wr.heap.size := cell_in o0
        have hTl := sackF_len u n (ms.take j) l
        have HTG := Lib.hid (sackF_good u n (ms.take j) l (bdP_good HP.out))
        have h33 : (ms.take j).length ≤ 3 := by rw [List.length_take]; omega
        have hTl2 : (sackF u n l (ms.take j)).length ≤ 43 := by omega
        by_cases hlt : j < ms.length
        · rcases (HM.out.2.2.kept HS.out.1.grown) with hn | ⟨b, off, rfl, hb, hc⟩
          · rw [hn] at hlt
            simp at hlt
          · obtain ⟨c0, c1⟩ := hc j hlt
            clear hc
            have hlt' : (j : Int) < (ms.length : Int) := by omega
            have hj0 : (0 : Int) ≤ (j : Int) := by omega
            have HNX := Lib.hid (sackF_next u n ms l j hlt)
            generalize ms[j] = z at *
            obtain ⟨f, t⟩ := z
            dsimp only at c0 c1
            generalize hTT : sackF u n l (ms.take j) = T at *
            clear hTT hTl
            have HA := Lib.hid (And.intro (HS.out.1.kept (World.grownBy_alloc wr (.cells #[.int .i64 f, .int .i64 t] 40) none)) (own_kept HS.out.2.1 (World.grownBy_alloc wr (.cells #[.int .i64 f, .int .i64 t] 40) none)))
            cases i1 : inB f (u + 1) (n - 1)
            · have I1 := Lib.hid i1
              have HX := Lib.hid (show sackF u n l (ms.take (j + 1)) = T by rw [HNX.out, if_neg (fun h : rg1 u n (f, t) => in_not i1 ⟨by have := h.1; simp only at this; omega, by have := h.2.1; have := h.2.2; simp only at *; omega⟩)])
              clear i1
              go_wp2_with (go_at_call 33; refine (in_any _ _ _ _).mono ?_; rintro e w' ⟨rfl, rfl⟩; rw [I1.out])
              go_roundw
              case rel => exact ⟨j + 1, ao, cc, hlt, by go_num, by rw [HX.out]; exact HA.out.1, by rw [HX.out]; exact HA.out.2, by rw [HX.out]; exact HS.out.2.2⟩
              case measure => simp [intOf]; omega
            · have I1 := Lib.hid i1
              have g1 := in_of i1
              clear i1
              have hw3 : IntKind.i64.wrap (f + 1) = f + 1 := IntWalk.i64_in _ (by omega)
              cases i2 : inB t (f + 1) n
              · have I2 := Lib.hid i2
                have HX := Lib.hid (show sackF u n l (ms.take (j + 1)) = T by rw [HNX.out, if_neg (fun h : rg1 u n (f, t) => in_not i2 ⟨by have := h.2.1; simp only at this; omega, h.2.2⟩)])
                clear i2
                go_wp2_with (go_at_call 33; refine (in_any _ _ _ _).mono ?_; rintro e w' ⟨rfl, rfl⟩; first | rw [I1.out] | rw [I2.out])
                go_roundw
                case rel => exact ⟨j + 1, ao, cc, hlt, by go_num, by rw [HX.out]; exact HA.out.1, by rw [HX.out]; exact HA.out.2, by rw [HX.out]; exact HS.out.2.2⟩
                case measure => simp [intOf]; omega
              · have I2 := Lib.hid i2
                have g2 := in_of i2
                clear i2
                have HX := Lib.hid (show sackF u n l (ms.take (j + 1)) = putR T (f, t) by rw [HNX.out, if_pos (show rg1 u n (f, t) from ⟨by show u < f; omega, by show f < t; omega, by show t ≤ n; omega⟩), with_put T (f, t) HTG.out (by show f < t; omega)])
                go_wp2_with (go_at_call 33; refine (in_any _ _ _ _).mono ?_; rintro e w' ⟨rfl, rfl⟩; first | rw [I1.out] | rw [I2.out])
                refine (put_any _ _ _ _ _ _ (rg_own HA.out.2) (by omega)).mono ?_
                rintro e w9 ⟨v9, rfl, hg, ho⟩
                obtain ⟨ao9, cc9, rfl⟩ := own_slice ho
                have hm9 := HA.out.1.kept hg
                have e5 := alloc_size wr (.cells #[.int .i64 f, .int .i64 t] 40)
                have hput := (bd_put hm9 (two_far (by omega) (by omega))).2.2 (.slice ao9 (putR T (f, t)).length cc9)
                have hne9 : ∀ g, Value.ownBlock (.slice ao9 (putR T (f, t)).length cc9) = some g → g ≠ w4.heap.size := fun g e => by have := (ho.lt g e).1; omega
                have H9 := Lib.hid (And.intro hput (And.intro (own_setN (o := 2) (v := .slice ao9 (putR T (f, t)).length cc9) (own_base ho (show w3.heap.size ≤ _ by omega)) hne9) hne9))
                obtain ⟨p0, p1, p2⟩ := bd_facts hm9.right
                obtain ⟨q0, q1, q2⟩ := bd_frees hm9.right
                clear hg ho hm9 hput hne9 b0 b1 b2 c0 c1 o0 o1 o2 e5
                go_wp2_with fail
                go_roundw
                case rel => exact ⟨j + 1, ao9, cc9, hlt, by go_num, by rw [HX.out]; exact H9.out.1, by rw [HX.out]; exact H9.out.2.1, by rw [HX.out]; exact H9.out.2.2⟩
                case measure => simp [intOf]; omega
        · obtain rfl : j = ms.length := by omega
          rw [List.take_length] at HS hTl2
          rw [List.take_length] at o2
          generalize hTT : sackF u n l ms = T at *
          have HTT := Lib.hid hTT
          clear hTT hTl
          go_wp2_with fail
          refine (bd_ok_spec _ _ _ _ _ _ (rg_own HS.out.2.1) (by omega)).mono ?_
          rintro e w6 ⟨rfl, hg⟩
          have H6 := Lib.hid (And.intro (HS.out.1.kept hg) (own_kept HS.out.2.1 hg))
          clear hg b0 b1 b2 o0 o1 o2
          obtain ⟨r0, r1, r2⟩ := bd_facts H6.out.1.left.right
          obtain ⟨f0, f1, f2⟩ := bd_frees H6.out.1.left.right
          obtain ⟨o0, o1, o2⟩ := bd_facts H6.out.1.right
          cases hok2 : bdOk u n T
          · have HN := Lib.hid (show sackL u n l ms = noBd from sackL_no (fun h => by have := h.2.2; rw [HTT.out, hok2] at this; cases this))
            clear hok2
            go_wp2_with fail
            have hgr := res3_grown (R := w.heap.size + 1) (.int .i64 0) (.int .i64 0) (.slice none 0 0) H6.out.1.grown (by omega)
            refine bodyPost_ret (v := .tuple #[bdV 0 0 none 0 0, .bool false]) ?_ rfl (bd_as HN.out ⟨none, 0, rfl, hgr, own_none _ _⟩)
            simp [results, Try.results23, go_sem, r0, r1, r2]
          · have HN := Lib.hid (show sackL u n l ms = (u, n, T, true) by rw [sackL_yes ⟨HK.out, by omega, by rw [HTT.out]; exact hok2⟩, HTT.out])
            clear hok2
            go_wp2_with fail
            have hgr := res3_grown (R := w.heap.size + 1) (.int .i64 u) (.int .i64 n) (.slice ao T.length cc) H6.out.1.grown (by omega)
            refine bodyPost_ret (v := .tuple #[bdV u n ao T.length cc, .bool true]) ?_ rfl (bd_as HN.out ⟨ao, cc, rfl, hgr, ?_⟩)
            · simp [results, Try.results23, go_sem, r0, r1, r2]
            · exact own_base (own_setB (own_setB (own_setB H6.out.2 s3) s3) s3) (by omega)

end Go.Proofs.Ytedgfiagefhahaa
