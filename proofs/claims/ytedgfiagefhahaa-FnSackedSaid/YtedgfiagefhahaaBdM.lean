/- What is told to be there: the program's board behind it and the model's. -/
import Derived.Test.YtedgfiagefhahaaRwP
namespace Go.Proofs.Ytedgfiagefhahaa
open Go.RowKit

noncomputable def sackL (u n : Int) (l ms : List Rg) : Int × Int × List Rg × Bool := @ite _ (bdOk u n l = true ∧ ms.length ≤ 3 ∧ bdOk u n (sackF u n l ms) = true) (Classical.propDecidable _) (u, n, sackF u n l ms, true) noBd
theorem sackL_yes {u n : Int} {l ms : List Rg} (h : bdOk u n l = true ∧ ms.length ≤ 3 ∧ bdOk u n (sackF u n l ms) = true) : sackL u n l ms = (u, n, sackF u n l ms, true) := if_pos h
theorem sackL_no {u n : Int} {l ms : List Rg} (h : ¬ (bdOk u n l = true ∧ ms.length ≤ 3 ∧ bdOk u n (sackF u n l ms) = true)) : sackL u n l ms = noBd := if_neg h
theorem sackL_len (u n : Int) (l ms : List Rg) : (sackL u n l ms).2.2.1.length ≤ 40 := by
  unfold sackL
  split
  · rename_i h
    exact (bd_of h.2.2).2.2.2.1
  · simp
theorem rwith_any (a : Option Addr) (c : Nat) (l : List Rg) (p m : Int) (w : World) (h : RowOk w a c l) (hl : l.length ≤ 100) :
    Calls Try.prog 41 #[.slice a l.length c, .agg #[.int .i64 p, .int .i64 m]] w (CcPost w (withL l (p, m))) := by
  have h' := h
  rcases h with ⟨rfl, rfl, rfl⟩ | ⟨b, off, rfl, h1, h2, _⟩
  · exact with_nil p m w
  · exact with_some b off c l p m w h' h1 h2 hl
theorem own_setN {w : World} {B C o c : Nat} {a : Option Addr} {v : Value} {l : List Rg} (h : OwnRg w B a c l) (hne : ∀ g, Value.ownBlock (.slice a l.length c) = some g → g ≠ C) : OwnRg (w.setCell ⟨C, o, none⟩ v) B a c l := by
  refine h.kept (grownBy_set w C o v) ?_
  cases hv : Value.ownBlock (.slice a l.length c) with
  | none => exact .inl rfl
  | some g => exact .inr fun e => hne g hv (by simpa using e)

def SkRel (w : World) (S : Nat) (u n : Int) (a : Option Addr) (c : Nat) (l ms : List Rg) (v i : Value) (wr : World) : Prop :=
  ∃ (j : Nat) (ao : Option Addr) (cc : Nat), j ≤ ms.length ∧ i = .int .i64 (j : Int) ∧ v = .slice ao (sackF u n l (ms.take j)).length cc ∧ Mine w (bdCells w.heap.size (.int .i64 u) (.int .i64 n) (.slice a l.length c) ++ bdCells (w.heap.size + 1) (.int .i64 0) (.int .i64 0) (.slice none 0 0)) wr ∧ OwnRg wr S ao cc (sackF u n l (ms.take j)) ∧ S ≤ wr.heap.size

set_option maxRecDepth 100000 in
set_option maxHeartbeats 8000000 in
theorem sack_impl (u n : Int) (a : Option Addr) (c : Nat) (l : List Rg) (a2 : Option Addr) (c2 : Nat) (ms : List Rg) (w : World) (h : RowOk w a c l) (hm : RgAt w a2 ms) (hml : ms.length ≤ 9223372036854775807) :
    Calls Try.prog 22 #[bdV u n a l.length c, .slice a2 ms.length c2] w (BdPost w (sackL u n l ms)) := by
  have hM := bd_two w (.int .i64 u) (.int .i64 n) (.slice a l.length c) (.int .i64 0) (.int .i64 0) (.slice none 0 0) 26 26
  have HM := Lib.hid (And.intro hM (And.intro (h.kept hM.grown) hm))
  clear hM h hm
  cases hok : bdOk u n l
  · have HN := Lib.hid (show sackL u n l ms = noBd from sackL_no (by rw [hok]; simp))
    have HK := Lib.hid hok
    clear hok
    go_enter Try.func22, Try.ntmps22
    go_wp2_with fail
    refine (bd_ok_impl _ _ _ _ _ _ HM.out.2.1.at).mono ?_
    rintro e w3 ⟨rfl, hg⟩
    rw [HK.out]
    have H3 := Lib.hid (HM.out.1.kept hg)
    clear hg
    obtain ⟨b0, b1, b2⟩ := bd_facts H3.out.left
    obtain ⟨r0, r1, r2⟩ := bd_facts H3.out.right
    obtain ⟨f0, f1, f2⟩ := bd_frees H3.out.right
    go_wp2_with fail
    have hgr := res3_grown (R := w.heap.size + 1) (.int .i64 0) (.int .i64 0) (.slice none 0 0) H3.out.grown (by omega)
    refine bodyPost_ret (v := .tuple #[bdV 0 0 none 0 0, .bool false]) ?_ rfl (bd_as HN.out ⟨none, 0, rfl, hgr, own_none _ _⟩)
    simp [results, Try.results22, go_sem, r0, r1, r2]
  · have hp := bd_of hok
    have hl := hp.2.2.2.1
    have HP := Lib.hid hp
    have HK := Lib.hid hok
    clear hok hp
    by_cases h3 : 3 < ms.length
    · have h3' : 3 < (ms.length : Int) := by omega
      have HN := Lib.hid (show sackL u n l ms = noBd from sackL_no (fun h => by have := h.2.1; omega))
      go_enter Try.func22, Try.ntmps22
      go_wp2_with fail
      refine (bd_ok_impl _ _ _ _ _ _ HM.out.2.1.at).mono ?_
      rintro e w3 ⟨rfl, hg⟩
      rw [HK.out]
      have H3 := Lib.hid (HM.out.1.kept hg)
      clear hg
      obtain ⟨b0, b1, b2⟩ := bd_facts H3.out.left
      obtain ⟨r0, r1, r2⟩ := bd_facts H3.out.right
      obtain ⟨f0, f1, f2⟩ := bd_frees H3.out.right
      go_wp2_with fail
      have hgr := res3_grown (R := w.heap.size + 1) (.int .i64 0) (.int .i64 0) (.slice none 0 0) H3.out.grown (by omega)
      refine bodyPost_ret (v := .tuple #[bdV 0 0 none 0 0, .bool false]) ?_ rfl (bd_as HN.out ⟨none, 0, rfl, hgr, own_none _ _⟩)
      simp [results, Try.results22, go_sem, r0, r1, r2]
    · have h3' : ¬ 3 < (ms.length : Int) := by omega
      go_enter Try.func22, Try.ntmps22
      go_wp2_with fail
      refine (bd_ok_impl _ _ _ _ _ _ HM.out.2.1.at).mono ?_
      rintro e w3 ⟨rfl, hg⟩
      rw [HK.out]
      have H3 := Lib.hid (And.intro (HM.out.1.kept hg) (HM.out.2.1.kept hg))
      have s3 : w.heap.size + 1 < w3.heap.size := cell_in (bd_facts (HM.out.1.kept hg).right).1
      clear hg
      obtain ⟨b0, b1, b2⟩ := bd_facts H3.out.1.left
      go_wp2_with fail
      refine (clone_any _ _ _ _ H3.out.2 (by omega)).mono ?_
      rintro e w4 ⟨v4, rfl, hg, ho⟩
      obtain ⟨ao, cc, rfl⟩ := own_slice ho
      have H4 := Lib.hid (And.intro (H3.out.1.kept hg) (And.intro ho hg.size))
      clear hg ho b0 b1 b2
      go_wp2_with fail
      go_loopw [6, 24] (fun v i wr => SkRel w w3.heap.size u n a c l ms v i wr) (fun _ i _ => ms.length - (intOf i).toNat)
      case atStart => exact ⟨0, ao, cc, Nat.zero_le _, rfl, rfl, H4.out.1, H4.out.2.1, H4.out.2.2⟩
      case round =>
        clear H4
        obtain ⟨j, ao, cc, hj, rfl, rfl, hm, ho, hsz⟩ := hrel
        have HS := Lib.hid (And.intro hm ho)
        clear hm ho
        obtain ⟨b0, b1, b2⟩ := bd_facts HS.out.1.left
        have hB : w.heap.size < wr.heap.size := cell_in b0
        have hTl := sackF_len u n (ms.take j) l
        have h33 : (ms.take j).length ≤ 3 := by rw [List.length_take]; omega
        have hTl2 : (sackF u n l (ms.take j)).length ≤ 43 := by omega
        by_cases hlt : j < ms.length
        · rcases (HM.out.2.2.kept HS.out.1.grown) with hn | ⟨b, off, rfl, hb, hc⟩
          · rw [hn] at hlt
            simp at hlt
          · obtain ⟨c0, c1⟩ := hc j hlt
            clear hc
            have hlt' : (j : Int) < (ms.length : Int) := by omega
            have HNX := Lib.hid (sackF_next u n ms l j hlt)
            generalize ms[j] = z at *
            obtain ⟨f, t⟩ := z
            dsimp only at c0 c1
            generalize hTT : sackF u n l (ms.take j) = T at *
            clear hTT hTl
            by_cases hr : rg1 u n (f, t)
            · have HX := Lib.hid (show sackF u n l (ms.take (j + 1)) = withL T (f, t) by rw [HNX.out, if_pos hr])
              have HRR := Lib.hid hr
              clear hr
              go_wp2_with fail
              refine (can_any _ _ _ _ _ _ _ _).mono ?_
              rintro e w8 ⟨rfl, hg⟩
              rw [decide_eq_true HRR.out]
              have hgg := grownBy_trans (World.grownBy_alloc wr (.cells #[.int .i64 f, .int .i64 t] 40) none) hg
              have x0 := hg.cell (a := ⟨wr.heap.size, 0, none⟩) (v := .int .i64 f) (by go_simp) (by simp)
              have x1 := hg.cell (a := ⟨wr.heap.size, 1, none⟩) (v := .int .i64 t) (by go_simp) (by simp)
              have H8 := Lib.hid (And.intro (HS.out.1.kept hgg) (own_kept HS.out.2 hgg))
              have s8 := hgg.size
              clear hg hgg b0 b1 b2 c0 c1
              go_wp2_with fail
              refine (rwith_any _ _ _ _ _ _ (own_rowOk H8.out.2) (by omega)).mono ?_
              rintro e w9 ⟨v9, rfl, hg, ho⟩
              obtain ⟨ao9, cc9, rfl⟩ := own_slice ho
              have H9 := Lib.hid (And.intro (H8.out.1.kept hg) (And.intro (show OwnRg w9 w3.heap.size ao9 cc9 (sackF u n l (ms.take (j + 1))) by rw [HX.out]; exact own_base ho (by omega)) (Nat.le_trans (Nat.le_trans hsz s8) hg.size)))
              clear hg ho x0 x1
              go_wp2_with fail
              go_roundw
              case rel => exact ⟨j + 1, ao9, cc9, hlt, by go_num, by rw [HX.out], H9.out.1, H9.out.2.1, H9.out.2.2⟩
              case measure => simp [intOf]; omega
            · have HX := Lib.hid (show sackF u n l (ms.take (j + 1)) = T by rw [HNX.out, if_neg hr])
              have HRR := Lib.hid hr
              clear hr
              go_wp2_with fail
              refine (can_any _ _ _ _ _ _ _ _).mono ?_
              rintro e w8 ⟨rfl, hg⟩
              rw [decide_eq_false HRR.out]
              have hgg := grownBy_trans (World.grownBy_alloc wr (.cells #[.int .i64 f, .int .i64 t] 40) none) hg
              have H8 := Lib.hid (And.intro (HS.out.1.kept hgg) (And.intro (own_kept HS.out.2 hgg) (Nat.le_trans hsz hgg.size)))
              clear hg hgg b0 b1 b2 c0 c1
              go_wp2_with fail
              go_roundw
              case rel => exact ⟨j + 1, ao, cc, hlt, by go_num, by rw [HX.out], H8.out.1, by rw [HX.out]; exact H8.out.2.1, H8.out.2.2⟩
              case measure => simp [intOf]; omega
        · obtain rfl : j = ms.length := by omega
          rw [List.take_length] at HS hTl2 ⊢
          generalize hTT : sackF u n l ms = T at *
          have HTT := Lib.hid hTT
          clear hTT hTl
          have hO := bd_new wr (.int .i64 u) (.int .i64 n) (.slice ao T.length cc) 26
          have H5 := Lib.hid (And.intro ((HS.out.1.kept hO.grown).app (hO.base HS.out.1.grown)) (own_kept HS.out.2 hO.grown))
          clear hO
          go_wp2_with fail
          generalize hw5 : wr.alloc (.cells #[.int .i64 u, .int .i64 n, .slice ao T.length cc] 26) = w5 at *
          clear hw5
          refine (bd_ok_impl _ _ _ _ _ _ (rg_own H5.out.2)).mono ?_
          rintro e w6 ⟨rfl, hg⟩
          have H6 := Lib.hid (And.intro (H5.out.1.kept hg) (own_kept H5.out.2 hg))
          clear hg b0 b1 b2 H5
          obtain ⟨r0, r1, r2⟩ := bd_facts H6.out.1.left.right
          obtain ⟨f0, f1, f2⟩ := bd_frees H6.out.1.left.right
          obtain ⟨o0, o1, o2⟩ := bd_facts H6.out.1.right
          have s16 : w.heap.size + 1 < wr.heap.size := by omega
          cases hok2 : bdOk u n T
          · have HN := Lib.hid (show sackL u n l ms = noBd from sackL_no (fun h => by have := h.2.2; rw [HTT.out, hok2] at this; cases this))
            clear hok2
            go_wp2_with fail
            have hgr := res3_grown (R := w.heap.size + 1) (.int .i64 0) (.int .i64 0) (.slice none 0 0) H6.out.1.grown (by omega)
            refine bodyPost_ret (v := .tuple #[bdV 0 0 none 0 0, .bool false]) ?_ rfl (bd_as HN.out ⟨none, 0, rfl, hgr, own_none _ _⟩)
            simp [results, Try.results22, go_sem, r0, r1, r2]
          · have HN := Lib.hid (show sackL u n l ms = (u, n, T, true) by rw [sackL_yes ⟨HK.out, by omega, by rw [HTT.out]; exact hok2⟩, HTT.out])
            clear hok2
            go_wp2_with fail
            have hgr := res3_grown (R := w.heap.size + 1) (.int .i64 u) (.int .i64 n) (.slice ao T.length cc) H6.out.1.grown (by omega)
            refine bodyPost_ret (v := .tuple #[bdV u n ao T.length cc, .bool true]) ?_ rfl (bd_as HN.out ⟨ao, cc, rfl, hgr, ?_⟩)
            · simp [results, Try.results22, go_sem, r0, r1, r2]
            · exact own_base (own_setB (own_setB (own_setB H6.out.2 s3) s3) s3) (by omega)

end Go.Proofs.Ytedgfiagefhahaa
