/- What is sent: the program's board behind it and the model's. -/
import Derived.Test.YtedgfiagefhahaaBdC
namespace Go.Proofs.Ytedgfiagefhahaa
open Go.RowKit

def BdPost (w : World) (r : Int × Int × List Rg × Bool) (e : Ending) (w' : World) : Prop :=
  ∃ a c, e = .returned (.tuple #[bdV r.1 r.2.1 a r.2.2.1.length c, .bool r.2.2.2]) ∧ w.grownBy w' none ∧ OwnRg w' w.heap.size a c r.2.2.1
theorem bd_as {w w' : World} {r s : Int × Int × List Rg × Bool} {e : Ending} (h : r = s) (k : BdPost w s e w') : BdPost w r e w' := by rw [h]; exact k
abbrev noBd : Int × Int × List Rg × Bool := (0, 0, [], false)
noncomputable def sentL (u n : Int) (l : List Rg) (k : Int) : Int × Int × List Rg × Bool := if bdOk u n l = true ∧ 1 ≤ k ∧ k ≤ 1000000000 - n then (u, n + k, l, true) else noBd
theorem own_setA {w w0 : World} {B B' C o c : Nat} {a : Option Addr} {v : Value} {l : List Rg} (h : OwnRg w B a c l) (h0 : OwnRg w0 B' a c l) (hC : w0.heap.size ≤ C) : OwnRg (w.setCell ⟨C, o, none⟩ v) B a c l := by
  refine h.kept (grownBy_set w C o v) ?_
  cases hv : Value.ownBlock (.slice a l.length c) with
  | none => exact .inl rfl
  | some g =>
    refine .inr fun e => ?_
    have := (h0.lt g hv).2
    simp at e
    omega
theorem own_none (w : World) (B : Nat) : OwnRg w B none 0 [] := World.ownsRow_nil _ _ _ _

set_option maxRecDepth 100000 in
set_option maxHeartbeats 4000000 in
theorem sent_impl (u n : Int) (a : Option Addr) (c : Nat) (l : List Rg) (k : Int) (w : World) (h : RowOk w a c l) :
    Calls Try.prog 10 #[bdV u n a l.length c, .int .i64 k] w (BdPost w (sentL u n l k)) := by
  have hM := bd_two w (.int .i64 u) (.int .i64 n) (.slice a l.length c) (.int .i64 0) (.int .i64 0) (.slice none 0 0) 26 26
  have HM := Lib.hid (And.intro hM (h.kept hM.grown))
  clear hM h
  have hend : (¬ (bdOk u n l = true ∧ 1 ≤ k ∧ k ≤ 1000000000 - n)) → sentL u n l k = noBd := fun h => if_neg h
  have HE := Lib.hid hend
  clear hend
  cases hok : bdOk u n l
  · have HN := Lib.hid (HE.out (by rw [hok]; simp))
    have HK := Lib.hid hok
    clear hok
    go_enter Try.func10, Try.ntmps10
    go_wp2_with fail
    refine (bd_ok_impl _ _ _ _ _ _ HM.out.2.at).mono ?_
    rintro e w3 ⟨rfl, hg⟩
    rw [HK.out]
    have H3 := Lib.hid (HM.out.1.kept hg)
    clear hg
    obtain ⟨b0, b1, b2⟩ := bd_facts H3.out.left
    obtain ⟨r0, r1, r2⟩ := bd_facts H3.out.right
    obtain ⟨f0, f1, f2⟩ := bd_frees H3.out.right
    go_wp2_with fail
    have hgr := res3_grown (R := w.heap.size + 1) (.int .i64 0) (.int .i64 0) (.slice none 0 0) H3.out.grown (by omega)
    refine bodyPost_ret (v := .tuple #[bdV 0 0 none 0 0, .bool false]) ?_ rfl (bd_as HN.out ⟨none, 0, rfl, hgr, own_none _ _⟩)
    simp [results, Try.results10, go_sem, r0, r1, r2]
  · have hp := bd_of hok
    have hn := hp.2.2.1
    have hn0 : 0 ≤ n := Int.le_trans hp.1 hp.2.1
    have hl := hp.2.2.2.1
    have HK := Lib.hid hok
    clear hok hp
    have hw1 : IntKind.i64.wrap (1000000000 - n) = 1000000000 - n := IntWalk.i64_in _ (by omega)
    by_cases hk : 1 ≤ k ∧ k ≤ 1000000000 - n
    · have HN := Lib.hid (show sentL u n l k = (u, n + k, l, true) from if_pos ⟨HK.out, hk⟩)
      obtain ⟨hk1, hk2⟩ := hk
      have hk3 : ¬ k < 1 := by omega
      have hk4 : ¬ 1000000000 - n < k := by omega
      have hw2 : IntKind.i64.wrap (n + k) = n + k := IntWalk.i64_in _ (by omega)
      go_enter Try.func10, Try.ntmps10
      go_wp2_with fail
      refine (bd_ok_impl _ _ _ _ _ _ HM.out.2.at).mono ?_
      rintro e w3 ⟨rfl, hg⟩
      rw [HK.out]
      have H3 := Lib.hid (And.intro (HM.out.1.kept hg) (HM.out.2.kept hg))
      clear hg
      obtain ⟨b0, b1, b2⟩ := bd_facts H3.out.1.left
      obtain ⟨r0, r1, r2⟩ := bd_facts H3.out.1.right
      obtain ⟨f0, f1, f2⟩ := bd_frees H3.out.1.right
      have HR := Lib.hid (H3.out.2.kept (grownBy_drew (r := none)))
      have HD := Lib.hid (H3.out.1.kept (grownBy_drew (r := none)))
      go_wp2_with fail
      go_region_held3 (fun w' => w'.cell? ⟨w.heap.size, 0, none⟩ = some (.int .i64 u) ∧ w'.cell? ⟨w.heap.size, 1, none⟩ = some (.int .i64 n) ∧ w'.cell? ⟨w.heap.size, 2, none⟩ = some (.slice a l.length c)) ((refine ⟨by first | with_reducible assumption | (go_simp; done) | (simp [*]; done), by first | with_reducible assumption | (go_simp; done) | (simp [*]; done), by first | with_reducible assumption | (go_simp; done) | (simp [*]; done)⟩))
        ((go_at_call 32; refine (clone_any _ _ _ _ HR.out (by omega)).mono ?_; rintro e w4 ⟨v', rfl, hg, hown⟩; obtain ⟨ao, cc, rfl⟩ := own_slice hown; have hM4 := HD.out.kept hg; obtain ⟨q0, q1, q2⟩ := bd_facts hM4.left; obtain ⟨t0, t1, t2⟩ := bd_facts hM4.right; obtain ⟨y0, y1, y2⟩ := bd_frees hM4.right; have HF := Lib.hid (And.intro hM4 (And.intro hown (cell_in (bd_facts HD.out.right).1)))))
      go_wp2_with fail
      have hgr := res3_grown (R := w.heap.size + 1) (.int .i64 u) (.int .i64 (n + k)) (.slice ao l.length cc) HF.out.1.grown (by omega)
      refine bodyPost_ret (v := .tuple #[bdV u (n + k) ao l.length cc, .bool true]) ?_ rfl (bd_as HN.out ⟨ao, cc, rfl, hgr, ?_⟩)
      · simp [results, Try.results10, go_sem, t0, t1, t2]
      · exact own_base (own_setB (own_setB (own_setB HF.out.2.1 HF.out.2.2) HF.out.2.2) HF.out.2.2) HD.out.grown.size
    · have HN := Lib.hid (HE.out (fun h => hk h.2))
      have hk1 : k < 1 ∨ (¬ k < 1 ∧ 1000000000 - n < k) := by omega
      rcases hk1 with hk1 | ⟨hk0, hk1⟩
      all_goals
        go_enter Try.func10, Try.ntmps10
        go_wp2_with fail
        refine (bd_ok_impl _ _ _ _ _ _ HM.out.2.at).mono ?_
        rintro e w3 ⟨rfl, hg⟩
        rw [HK.out]
        have H3 := Lib.hid (HM.out.1.kept hg)
        clear hg
        obtain ⟨b0, b1, b2⟩ := bd_facts H3.out.left
        obtain ⟨r0, r1, r2⟩ := bd_facts H3.out.right
        obtain ⟨f0, f1, f2⟩ := bd_frees H3.out.right
        go_wp2_with fail
        have hgr := res3_grown (R := w.heap.size + 1) (.int .i64 0) (.int .i64 0) (.slice none 0 0) H3.out.grown (by omega)
        refine bodyPost_ret (v := .tuple #[bdV 0 0 none 0 0, .bool false]) ?_ rfl (bd_as HN.out ⟨none, 0, rfl, hgr, own_none _ _⟩)
        simp [results, Try.results10, go_sem, r0, r1, r2]

set_option maxRecDepth 100000 in
set_option maxHeartbeats 4000000 in
theorem sent_spec (u n : Int) (a : Option Addr) (c : Nat) (l : List Rg) (k : Int) (w : World) (h : RowOk w a c l) (hl0 : l.length ≤ 9223372036854775807) :
    Calls Try.prog 11 #[bdV u n a l.length c, .int .i64 k] w (BdPost w (sentL u n l k)) := by
  have hM := bd_two w (.int .i64 u) (.int .i64 n) (.slice a l.length c) (.int .i64 0) (.int .i64 0) (.slice none 0 0) 26 26
  have HM := Lib.hid (And.intro hM (h.kept hM.grown))
  clear hM h
  have hend : (¬ (bdOk u n l = true ∧ 1 ≤ k ∧ k ≤ 1000000000 - n)) → sentL u n l k = noBd := fun h => if_neg h
  have HE := Lib.hid hend
  clear hend
  cases hok : bdOk u n l
  · have HN := Lib.hid (HE.out (by rw [hok]; simp))
    have HK := Lib.hid hok
    clear hok
    go_enter Try.func11, Try.ntmps11
    go_wp2_with fail
    refine (bd_ok_spec _ _ _ _ _ _ HM.out.2.at hl0).mono ?_
    rintro e w3 ⟨rfl, hg⟩
    rw [HK.out]
    have H3 := Lib.hid (HM.out.1.kept hg)
    clear hg
    obtain ⟨b0, b1, b2⟩ := bd_facts H3.out.left
    obtain ⟨r0, r1, r2⟩ := bd_facts H3.out.right
    obtain ⟨f0, f1, f2⟩ := bd_frees H3.out.right
    go_wp2_with fail
    have hgr := res3_grown (R := w.heap.size + 1) (.int .i64 0) (.int .i64 0) (.slice none 0 0) H3.out.grown (by omega)
    refine bodyPost_ret (v := .tuple #[bdV 0 0 none 0 0, .bool false]) ?_ rfl (bd_as HN.out ⟨none, 0, rfl, hgr, own_none _ _⟩)
    simp [results, Try.results11, go_sem, r0, r1, r2]
  · have hp := bd_of hok
    have hn := hp.2.2.1
    have hn0 : 0 ≤ n := Int.le_trans hp.1 hp.2.1
    have hl := hp.2.2.2.1
    have HK := Lib.hid hok
    clear hok hp
    have hw1 : IntKind.i64.wrap (1000000000 - n) = 1000000000 - n := IntWalk.i64_in _ (by omega)
    cases hk : inB k 1 (1000000000 - n)
    · have HN := Lib.hid (HE.out (fun h => in_not hk h.2))
      have HI := Lib.hid hk
      clear hk
      go_enter Try.func11, Try.ntmps11
      go_wp2_with fail
      refine (bd_ok_spec _ _ _ _ _ _ HM.out.2.at hl0).mono ?_
      rintro e w3 ⟨rfl, hg⟩
      rw [HK.out]
      have H3 := Lib.hid (HM.out.1.kept hg)
      clear hg
      obtain ⟨b0, b1, b2⟩ := bd_facts H3.out.left
      obtain ⟨r0, r1, r2⟩ := bd_facts H3.out.right
      obtain ⟨f0, f1, f2⟩ := bd_frees H3.out.right
      go_wp2_with (go_at_call 33; refine (in_any _ _ _ _).mono ?_; rintro e w' ⟨rfl, rfl⟩; rw [HI.out])
      have hgr := res3_grown (R := w.heap.size + 1) (.int .i64 0) (.int .i64 0) (.slice none 0 0) H3.out.grown (by omega)
      refine bodyPost_ret (v := .tuple #[bdV 0 0 none 0 0, .bool false]) ?_ rfl (bd_as HN.out ⟨none, 0, rfl, hgr, own_none _ _⟩)
      simp [results, Try.results11, go_sem, r0, r1, r2]
    · have HN := Lib.hid (show sentL u n l k = (u, n + k, l, true) from if_pos ⟨HK.out, in_of hk⟩)
      have hk' := in_of hk
      have HI := Lib.hid hk
      clear hk
      have hw2 : IntKind.i64.wrap (n + k) = n + k := IntWalk.i64_in _ (by omega)
      go_enter Try.func11, Try.ntmps11
      go_wp2_with fail
      refine (bd_ok_spec _ _ _ _ _ _ HM.out.2.at hl0).mono ?_
      rintro e w3 ⟨rfl, hg⟩
      rw [HK.out]
      have H3 := Lib.hid (And.intro (HM.out.1.kept hg) (HM.out.2.kept hg))
      clear hg
      obtain ⟨b0, b1, b2⟩ := bd_facts H3.out.1.left
      obtain ⟨r0, r1, r2⟩ := bd_facts H3.out.1.right
      go_wp2_with (go_at_call 33; refine (in_any _ _ _ _).mono ?_; rintro e w' ⟨rfl, rfl⟩; rw [HI.out])
      refine (copy_any _ _ _ _ _ _ H3.out.2 (by omega)).mono ?_
      rintro e w4 ⟨ao, cc, rfl, hg, hown⟩
      have hM4 := H3.out.1.kept hg
      have hO := bd_new w4 (.int .i64 u) (.int .i64 n) (.slice ao l.length cc) 26
      have hlt : w.heap.size + 1 < w4.heap.size := cell_in (bd_facts hM4.right).1
      have H4 := Lib.hid (And.intro (hM4.kept hO.grown) (And.intro (own_base (own_kept hown hO.grown) H3.out.1.grown.size) (And.intro (hO.base hM4.grown) (And.intro (show w.heap.size + 1 < w3.heap.size from cell_in (bd_facts H3.out.1.right).1) (And.intro (own_kept hown hO.grown) hown)))))
      clear hg hown b0 b1 b2 r0 r1 r2 hM4 hO
      generalize hW : w4.alloc (.cells #[.int .i64 u, .int .i64 n, .slice ao l.length cc] 26) = w5 at *
      obtain ⟨b0, b1, b2⟩ := bd_facts H4.out.1.left
      obtain ⟨r0, r1, r2⟩ := bd_facts H4.out.1.right
      obtain ⟨f0, f1, f2⟩ := bd_frees H4.out.1.right
      obtain ⟨o0, o1, o2⟩ := bd_facts H4.out.2.2.1
      obtain ⟨g0, g1, g2⟩ := bd_frees H4.out.2.2.1
      go_wp2_with fail
      have hgr := res3_grown (R := w.heap.size + 1) (.int .i64 u) (.int .i64 (n + k)) (.slice ao l.length cc) (grownBy_new H4.out.2.2.1.grown (grownBy_set _ w4.heap.size 1 (.int .i64 (n + k))) (by omega)) (by omega)
      refine bodyPost_ret (v := .tuple #[bdV u (n + k) ao l.length cc, .bool true]) ?_ rfl (bd_as HN.out ⟨ao, cc, rfl, hgr, ?_⟩)
      · simp [results, Try.results11, go_sem, r0, r1, r2]
      · exact own_base (own_setB (own_setB (own_setB (own_setA H4.out.2.2.2.2.1 H4.out.2.2.2.2.2 (Nat.le_refl _)) H4.out.2.2.2.1) H4.out.2.2.2.1) H4.out.2.2.2.1) H3.out.1.grown.size

end Go.Proofs.Ytedgfiagefhahaa
