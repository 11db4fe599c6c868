/- What is acked: the program's board behind it and the model's. -/
import Derived.Test.YtedgfiagefhahaaBdX
namespace Go.Proofs.Ytedgfiagefhahaa
open Go.RowKit

def HolePost (w : World) (B : Nat) (v : Value) (hs : List Rg) (a b : Int) (e : Ending) (w' : World) : Prop :=
  ∃ v', e = .returned v' ∧ w'.ownsRow B 40 2 v' (hs ++ hole a b).length (rgsV (hs ++ hole a b)) ∧ w.grownBy w' v.ownBlock

set_option maxRecDepth 100000 in
set_option maxHeartbeats 2000000 in
theorem hole_any (B : Nat) (v : Value) (hs : List Rg) (a b : Int) (w : World) (ho : w.ownsRow B 40 2 v hs.length (rgsV hs)) (hB : B ≤ w.heap.size) (hl : hs.length ≤ 1000) :
    Calls Try.prog 48 #[v, .int .i64 a, .int .i64 b] w (HolePost w B v hs a b) := by
  obtain ⟨i0, hi, hz0, hz1, hz2⟩ := info_of infoRg
  have HO := Lib.hid ho
  clear ho
  by_cases hab : a < b
  · have hab' : ¬ b ≤ a := by omega
    have HE := Lib.hid (show hs ++ hole a b = hs ++ [(a, b)] by rw [hole, if_pos hab])
    go_enter Try.func48, Try.ntmps48
    go_wp2_with (at_builtin; refine wpList_append_own _ rfl _ _ 24 rfl B 40 i0 _ 2 16 Try.underlying24 hi hz0 hz1 hz2 rfl (by decide) _ _ _ rfl (HO.out.alloc _) ⟨w.heap.size, 0, none⟩ 1 1 [.int .i64 a, .int .i64 b] rfl rfl ?c1 ?c2 ?c3 ?c4 ?c5 ?_)
    try (case c1 => exact pair_new w _ _ _ _ rfl)
    case c2 => simp [Value.oneCell']
    case c3 => unfold maxLen; omega
    case c4 => omega
    case c5 => first | (simp; omega) | omega
    intro v' wz hown1 hg1 _
    have HW := Lib.hid (And.intro hown1 hg1)
    clear hown1 hg1
    go_wp2_with fail
    go_ret
    refine ⟨v', rfl, ?_, grownBy_trans (World.grownBy_alloc _ _ _) HW.out.2⟩
    rw [HE.out, rgsV_snoc, List.length_append, List.length_singleton]
    exact HW.out.1
  · have hab' : b ≤ a := by omega
    have HE := Lib.hid (show hs ++ hole a b = hs by rw [hole, if_neg hab]; simp)
    go_enter Try.func48, Try.ntmps48
    go_wp2_with fail
    go_ret
    refine ⟨v, rfl, ?_, World.grownBy.refl _ _⟩
    rw [HE.out]
    exact HO.out

def cutB (p : Int) (x : Rg) : List Rg := hole (if x.1 < p + 1 then p + 1 else x.1) x.2
def beyF (p : Int) : List Rg → List Rg
  | [] => []
  | x :: l => cutB p x ++ beyF p l
theorem cutB_len (p : Int) (x : Rg) : (cutB p x).length ≤ 1 := hole_len _ _
theorem beyF_len (p : Int) : ∀ l : List Rg, (beyF p l).length ≤ l.length
  | [] => by simp [beyF]
  | x :: l => by
    have h1 := cutB_len p x
    have h2 := beyF_len p l
    rw [beyF, List.length_append, List.length_cons]
    omega
noncomputable def ackL (u n : Int) (l : List Rg) (k : Int) : Int × Int × List Rg × Bool := if bdOk u n l = true ∧ u ≤ k ∧ k ≤ n then (k, n, beyF k l, true) else noBd
theorem ackL_len (u n : Int) (l : List Rg) (k : Int) : (ackL u n l k).2.2.1.length ≤ 40 := by
  unfold ackL
  split
  · rename_i h
    have h1 := (bd_of h.1).2.2.2.1
    have h2 := beyF_len k l
    show (beyF k l).length ≤ 40
    omega
  · simp

def BeyPost (w : World) (l : List Rg) (p : Int) (e : Ending) (w' : World) : Prop :=
  ∃ v, e = .returned v ∧ w.grownBy w' none ∧ w'.ownsRow w.heap.size 40 2 v (beyF p l).length (rgsV (beyF p l))
def BeyRel (w : World) (l : List Rg) (p : Int) (v i : Value) (wr : World) : Prop :=
  ∃ (j : Nat) (hs : List Rg), j ≤ l.length ∧ i = .int .i64 j ∧ w.grownBy wr none ∧ wr.ownsRow w.heap.size 40 2 v hs.length (rgsV hs) ∧ hs ++ beyF p (l.drop j) = beyF p l ∧ hs.length ≤ j

set_option maxRecDepth 100000 in
set_option maxHeartbeats 4000000 in
theorem beyond_any (a : Option Addr) (c : Nat) (l : List Rg) (p : Int) (w : World) (h : RgAt w a l) (hl : l.length ≤ 1000) (h0 : 0 ≤ p) (h1 : p ≤ 1000000000) :
    Calls Try.prog 35 #[.slice a l.length c, .int .i64 p] w (BeyPost w l p) := by
  have H := Lib.hid h
  clear h
  have hw1 : IntKind.i64.wrap (p + 1) = p + 1 := IntWalk.i64_in _ (by omega)
  go_enter Try.func35, Try.ntmps35
  go_wp2_with fail
  go_loopw [5, 10] (fun v i wr => BeyRel w l p v i wr) (fun _ i _ => l.length - (intOf i).toNat)
  case atStart => exact ⟨0, [], Nat.zero_le _, rfl, World.grownBy.refl _ _, World.ownsRow_nil _ _ _ _, by simp, Nat.zero_le _⟩
  case round =>
    obtain ⟨j, hs, hj, rfl, hg, hown, hf, hlen⟩ := hrel
    have HS := Lib.hid (And.intro hg (And.intro hown hf))
    clear hg hown hf
    by_cases hlt : j < l.length
    · rcases (H.out.kept HS.out.1) with hn | ⟨b, off, rfl, hb, hc⟩
      · rw [hn] at hlt
        simp at hlt
      · obtain ⟨c0, c1⟩ := hc j hlt
        clear hc
        have hlt' : (j : Int) < (l.length : Int) := by omega
        have HD := Lib.hid (List.drop_eq_getElem_cons hlt)
        generalize l[j] = x at *
        obtain ⟨f, t⟩ := x
        dsimp only at c0 c1
        have HF := HS.out.2.2
        rw [HD.out, beyF, ← List.append_assoc] at HF
        have HM := Lib.hid (show ∀ q, (if f < p + 1 then p + 1 else f) = q → (hs ++ hole q t) ++ beyF p (List.drop (j + 1) l) = beyF p l from fun q hq => by rw [← hq]; exact HF)
        clear HF
        have HX := Lib.hid (show ∀ q, (hs ++ hole q t).length ≤ j + 1 from fun q => by have := hole_len q t; rw [List.length_append]; omega)
        have HA := Lib.hid (And.intro (grownBy_trans HS.out.1 (World.grownBy_alloc wr (.cells #[.int .i64 f, .int .i64 t] 40) none)) (HS.out.2.1.alloc (.cells #[.int .i64 f, .int .i64 t] 40)))
        by_cases hq : f < p + 1
        · have hq1 : f ≤ p + 1 := by omega
          have hq2 : ¬ p + 1 ≤ f := by omega
          have hq3 : ¬ p + 1 < f := by omega
          go_wp2_with fail
          refine (hole_any _ _ _ _ _ _ HA.out.2 HA.out.1.size (by omega)).mono ?_
          rintro e w9 ⟨v9, rfl, hown, hgv⟩
          have H9 := Lib.hid (And.intro (grow_own HA.out.1 hgv HA.out.2 (Nat.le_refl _)) hown)
          clear hgv hown
          go_wp2_with fail
          go_roundw
          case rel => exact ⟨j + 1, _, hlt, by go_num, H9.out.1, H9.out.2, HM.out (p + 1) (by rw [if_pos hq]), HX.out (p + 1)⟩
          case measure => simp [intOf]; omega
        · have hq1 : p + 1 ≤ f := by omega
          have hq2 : ¬ f < p + 1 := by omega
          go_wp2_with fail
          refine (hole_any _ _ _ _ _ _ HA.out.2 HA.out.1.size (by omega)).mono ?_
          rintro e w9 ⟨v9, rfl, hown, hgv⟩
          have H9 := Lib.hid (And.intro (grow_own HA.out.1 hgv HA.out.2 (Nat.le_refl _)) hown)
          clear hgv hown
          go_wp2_with fail
          go_roundw
          case rel => exact ⟨j + 1, _, hlt, by go_num, H9.out.1, H9.out.2, HM.out f (by rw [if_neg (by omega)]), HX.out f⟩
          case measure => simp [intOf]; omega
    · obtain rfl : j = l.length := by omega
      have HF := Lib.hid HS.out.2.2
      rw [List.drop_length, beyF, List.append_nil] at HF
      go_wp2_with fail
      go_ret
      refine ⟨_, rfl, HS.out.1, ?_⟩
      rw [← HF.out]
      exact HS.out.2.1

set_option maxRecDepth 100000 in
set_option maxHeartbeats 4000000 in
theorem ack_impl (u n : Int) (a : Option Addr) (c : Nat) (l : List Rg) (k : Int) (w : World) (h : RowOk w a c l) :
    Calls Try.prog 13 #[bdV u n a l.length c, .int .i64 k] w (BdPost w (ackL u n l k)) := by
  have hM := bd_two w (.int .i64 u) (.int .i64 n) (.slice a l.length c) (.int .i64 0) (.int .i64 0) (.slice none 0 0) 26 26
  have HM := Lib.hid (And.intro hM (h.kept hM.grown))
  clear hM h
  have hend : (¬ (bdOk u n l = true ∧ u ≤ k ∧ k ≤ n)) → ackL u n l k = noBd := fun h => if_neg h
  have HE := Lib.hid hend
  clear hend
  cases hok : bdOk u n l
  · have HN := Lib.hid (HE.out (by rw [hok]; simp))
    have HK := Lib.hid hok
    clear hok
    go_enter Try.func13, Try.ntmps13
    go_wp2_with fail
    refine (bd_ok_impl _ _ _ _ _ _ HM.out.2.at).mono ?_
    rintro e w3 ⟨rfl, hg⟩
    rw [HK.out]
    have H3 := Lib.hid (HM.out.1.kept hg)
    clear hg
    obtain ⟨b0, b1, b2⟩ := bd_facts H3.out.left
    obtain ⟨r0, r1, r2⟩ := bd_facts H3.out.right
    obtain ⟨f0, f1, f2⟩ := bd_frees H3.out.right
    go_wp2_with fail
    have hgr := res3_grown (R := w.heap.size + 1) (.int .i64 0) (.int .i64 0) (.slice none 0 0) H3.out.grown (by omega)
    refine bodyPost_ret (v := .tuple #[bdV 0 0 none 0 0, .bool false]) ?_ rfl (bd_as HN.out ⟨none, 0, rfl, hgr, own_none _ _⟩)
    simp [results, Try.results13, go_sem, r0, r1, r2]
  · have hp := bd_of hok
    have hn := hp.2.2.1
    have hu0 := hp.1
    have hl := hp.2.2.2.1
    have HK := Lib.hid hok
    clear hok hp
    by_cases hk : u ≤ k ∧ k ≤ n
    · have HN := Lib.hid (show ackL u n l k = (k, n, beyF k l, true) from if_pos ⟨HK.out, hk⟩)
      obtain ⟨hk1, hk2⟩ := hk
      have hk3 : ¬ k < u := by omega
      have hk4 : ¬ n < k := by omega
      go_enter Try.func13, Try.ntmps13
      go_wp2_with fail
      refine (bd_ok_impl _ _ _ _ _ _ HM.out.2.at).mono ?_
      rintro e w3 ⟨rfl, hg⟩
      rw [HK.out]
      have H3 := Lib.hid (And.intro (HM.out.1.kept hg) (HM.out.2.kept hg))
      clear hg
      obtain ⟨b0, b1, b2⟩ := bd_facts H3.out.1.left
      obtain ⟨r0, r1, r2⟩ := bd_facts H3.out.1.right
      obtain ⟨f0, f1, f2⟩ := bd_frees H3.out.1.right
      have HR := Lib.hid (H3.out.2.kept (grownBy_drew (r := none)))
      have HD := Lib.hid (H3.out.1.kept (grownBy_drew (r := none)))
      go_wp2_with fail
      go_region_held3 (fun w' => w'.cell? ⟨w.heap.size, 0, none⟩ = some (.int .i64 u) ∧ w'.cell? ⟨w.heap.size, 1, none⟩ = some (.int .i64 n) ∧ w'.cell? ⟨w.heap.size, 2, none⟩ = some (.slice a l.length c)) ((refine ⟨by first | with_reducible assumption | (go_simp; done) | (simp [*]; done), by first | with_reducible assumption | (go_simp; done) | (simp [*]; done), by first | with_reducible assumption | (go_simp; done) | (simp [*]; done)⟩))
        ((go_at_call 35; refine (beyond_any _ _ _ _ _ HR.out.at (by omega) (by omega) (by omega)).mono ?_; rintro e w4 ⟨v', rfl, hg, hown⟩; obtain ⟨ao, cc, rfl⟩ := own_slice hown; have hM4 := HD.out.kept hg; obtain ⟨q0, q1, q2⟩ := bd_facts hM4.left; obtain ⟨t0, t1, t2⟩ := bd_facts hM4.right; obtain ⟨y0, y1, y2⟩ := bd_frees hM4.right; have HF := Lib.hid (And.intro hM4 (And.intro hown (cell_in (bd_facts HD.out.right).1)))))
      go_wp2_with fail
      have hgr := res3_grown (R := w.heap.size + 1) (.int .i64 k) (.int .i64 n) (.slice ao (beyF k l).length cc) HF.out.1.grown (by omega)
      refine bodyPost_ret (v := .tuple #[bdV k n ao (beyF k l).length cc, .bool true]) ?_ rfl (bd_as HN.out ⟨ao, cc, rfl, hgr, ?_⟩)
      · simp [results, Try.results13, go_sem, t0, t1, t2]
      · exact own_base (own_setB (own_setB (own_setB HF.out.2.1 HF.out.2.2) HF.out.2.2) HF.out.2.2) HD.out.grown.size
    · have HN := Lib.hid (HE.out (fun h => hk h.2))
      have hk1 : k < u ∨ (¬ k < u ∧ n < k) := by omega
      rcases hk1 with hk1 | ⟨hk0, hk1⟩
      all_goals
        go_enter Try.func13, Try.ntmps13
        go_wp2_with fail
        refine (bd_ok_impl _ _ _ _ _ _ HM.out.2.at).mono ?_
        rintro e w3 ⟨rfl, hg⟩
        rw [HK.out]
        have H3 := Lib.hid (HM.out.1.kept hg)
        clear hg
        obtain ⟨b0, b1, b2⟩ := bd_facts H3.out.left
        obtain ⟨r0, r1, r2⟩ := bd_facts H3.out.right
        obtain ⟨f0, f1, f2⟩ := bd_frees H3.out.right
        go_wp2_with fail
        have hgr := res3_grown (R := w.heap.size + 1) (.int .i64 0) (.int .i64 0) (.slice none 0 0) H3.out.grown (by omega)
        refine bodyPost_ret (v := .tuple #[bdV 0 0 none 0 0, .bool false]) ?_ rfl (bd_as HN.out ⟨none, 0, rfl, hgr, own_none _ _⟩)
        simp [results, Try.results13, go_sem, r0, r1, r2]

theorem bd_put {w a : World} {cs : List (Addr × Value)} {B : Nat} {x y z : Value} (h : Mine w (cs ++ bdCells B x y z) a) (hd : ∀ p ∈ cs, p.1.block ≠ B) :
    (∀ v, Mine w (cs ++ bdCells B v y z) (a.setCell ⟨B, 0, none⟩ v)) ∧ (∀ v, Mine w (cs ++ bdCells B x v z) (a.setCell ⟨B, 1, none⟩ v)) ∧ ∀ v, Mine w (cs ++ bdCells B x y v) (a.setCell ⟨B, 2, none⟩ v) := by
  have hcs : ∀ (o : Nat) (v : Value), cs.map (fun q => (q.1, if (⟨B, o, none⟩ : Addr) = q.1 then v else q.2)) = cs := by
    intro o v
    conv => rhs; rw [← List.map_id cs]
    refine List.map_congr_left (fun q hq => ?_)
    have := hd q hq
    rw [if_neg]
    · rfl
    · intro e
      rw [← e] at this
      exact this rfl
  refine ⟨fun v => ?_, fun v => ?_, fun v => ?_⟩
  · have := h.set ⟨B, 0, none⟩ x v (List.mem_append_right _ (by simp [bdCells]))
    rw [List.map_append, hcs] at this
    simpa [bdCells] using this
  · have := h.set ⟨B, 1, none⟩ y v (List.mem_append_right _ (by simp [bdCells]))
    rw [List.map_append, hcs] at this
    simpa [bdCells] using this
  · have := h.set ⟨B, 2, none⟩ z v (List.mem_append_right _ (by simp [bdCells]))
    rw [List.map_append, hcs] at this
    simpa [bdCells] using this
theorem two_far {A B g : Nat} {x y z x' y' z' : Value} (h1 : A ≠ g) (h2 : B ≠ g) : ∀ p ∈ bdCells A x y z ++ bdCells B x' y' z', p.1.block ≠ g := by
  intro p hp
  rcases List.mem_append.mp hp with hp | hp
  · exact bd_far h1 p hp
  · exact bd_far h2 p hp

theorem three_far {A B C g : Nat} {x y z x' y' z' u v t : Value} (h1 : A ≠ g) (h2 : B ≠ g) (h3 : C ≠ g) : ∀ p ∈ bdCells A x y z ++ bdCells B x' y' z' ++ bdCells C u v t, p.1.block ≠ g := by
  intro p hp
  rcases List.mem_append.mp hp with hp | hp
  · exact two_far h1 h2 p hp
  · exact bd_far h3 p hp
def AkRel (w : World) (S3 S6 O : Nat) (u n : Int) (a : Option Addr) (c : Nat) (l : List Rg) (k : Int) (ao : Option Addr) (cc : Nat) (v i : Value) (wr : World) : Prop :=
  ∃ (j : Nat) (hs : List Rg), j ≤ l.length ∧ i = .int .i64 j ∧ Mine w (bdCells w.heap.size (.int .i64 u) (.int .i64 n) (.slice a l.length c) ++ bdCells (w.heap.size + 1) (.int .i64 0) (.int .i64 0) (.slice none 0 0) ++ bdCells O (.int .i64 k) (.int .i64 n) (.slice ao l.length cc)) wr ∧ OwnRg wr S3 ao cc l ∧ wr.ownsRow S6 40 2 v hs.length (rgsV hs) ∧ hs ++ beyF k (l.drop j) = beyF k l ∧ hs.length ≤ j ∧ S6 ≤ wr.heap.size

set_option maxRecDepth 100000 in
set_option maxHeartbeats 4000000 in
theorem ack_spec (u n : Int) (a : Option Addr) (c : Nat) (l : List Rg) (k : Int) (w : World) (h : RowOk w a c l) (hl0 : l.length ≤ 9223372036854775807) :
    Calls Try.prog 14 #[bdV u n a l.length c, .int .i64 k] w (BdPost w (ackL u n l k)) := by
  obtain ⟨i0, hi, hz0, hz1, hz2⟩ := info_of infoRg
  have hM := bd_two w (.int .i64 u) (.int .i64 n) (.slice a l.length c) (.int .i64 0) (.int .i64 0) (.slice none 0 0) 26 26
  have HM := Lib.hid (And.intro hM (h.kept hM.grown))
  clear hM h
  have hend : (¬ (bdOk u n l = true ∧ u ≤ k ∧ k ≤ n)) → ackL u n l k = noBd := fun h => if_neg h
  have HE := Lib.hid hend
  clear hend
  cases hok : bdOk u n l
  · have HN := Lib.hid (HE.out (by rw [hok]; simp))
    have HK := Lib.hid hok
    clear hok
    go_enter Try.func14, Try.ntmps14
    go_wp2_with fail
    refine (bd_ok_spec _ _ _ _ _ _ HM.out.2.at hl0).mono ?_
    rintro e w3 ⟨rfl, hg⟩
    rw [HK.out]
    have H3 := Lib.hid (HM.out.1.kept hg)
    clear hg
    obtain ⟨b0, b1, b2⟩ := bd_facts H3.out.left
    obtain ⟨r0, r1, r2⟩ := bd_facts H3.out.right
    obtain ⟨f0, f1, f2⟩ := bd_frees H3.out.right
    go_wp2_with fail
    have hgr := res3_grown (R := w.heap.size + 1) (.int .i64 0) (.int .i64 0) (.slice none 0 0) H3.out.grown (by omega)
    refine bodyPost_ret (v := .tuple #[bdV 0 0 none 0 0, .bool false]) ?_ rfl (bd_as HN.out ⟨none, 0, rfl, hgr, own_none _ _⟩)
    simp [results, Try.results14, go_sem, r0, r1, r2]
  · have hp := bd_of hok
    have hn := hp.2.2.1
    have hu0 := hp.1
    have hl := hp.2.2.2.1
    have HK := Lib.hid hok
    clear hok hp
    cases hk : inB k u n
    · have HN := Lib.hid (HE.out (fun h => in_not hk h.2))
      have HI := Lib.hid hk
      clear hk
      go_enter Try.func14, Try.ntmps14
      go_wp2_with fail
      refine (bd_ok_spec _ _ _ _ _ _ HM.out.2.at hl0).mono ?_
      rintro e w3 ⟨rfl, hg⟩
      rw [HK.out]
      have H3 := Lib.hid (HM.out.1.kept hg)
      clear hg
      obtain ⟨b0, b1, b2⟩ := bd_facts H3.out.left
      obtain ⟨r0, r1, r2⟩ := bd_facts H3.out.right
      obtain ⟨f0, f1, f2⟩ := bd_frees H3.out.right
      go_wp2_with (go_at_call 33; refine (in_any _ _ _ _).mono ?_; rintro e w' ⟨rfl, rfl⟩; rw [HI.out])
      have hgr := res3_grown (R := w.heap.size + 1) (.int .i64 0) (.int .i64 0) (.slice none 0 0) H3.out.grown (by omega)
      refine bodyPost_ret (v := .tuple #[bdV 0 0 none 0 0, .bool false]) ?_ rfl (bd_as HN.out ⟨none, 0, rfl, hgr, own_none _ _⟩)
      simp [results, Try.results14, go_sem, r0, r1, r2]
    · have HN := Lib.hid (show ackL u n l k = (k, n, beyF k l, true) from if_pos ⟨HK.out, in_of hk⟩)
      have hk' := in_of hk
      have HI := Lib.hid hk
      clear hk
      have hw1 : IntKind.i64.wrap (k + 1) = k + 1 := IntWalk.i64_in _ (by omega)
      go_enter Try.func14, Try.ntmps14
      go_wp2_with fail
      refine (bd_ok_spec _ _ _ _ _ _ HM.out.2.at hl0).mono ?_
      rintro e w3 ⟨rfl, hg⟩
      rw [HK.out]
      have H3 := Lib.hid (And.intro (HM.out.1.kept hg) (HM.out.2.kept hg))
      clear hg
      obtain ⟨b0, b1, b2⟩ := bd_facts H3.out.1.left
      obtain ⟨r0, r1, r2⟩ := bd_facts H3.out.1.right
      go_wp2_with (go_at_call 33; refine (in_any _ _ _ _).mono ?_; rintro e w' ⟨rfl, rfl⟩; rw [HI.out])
      refine (copy_any _ _ _ _ _ _ H3.out.2 (by omega)).mono ?_
      rintro e w4 ⟨ao, cc, rfl, hg, hown⟩
      have hM4 := H3.out.1.kept hg
      have hO := bd_new w4 (.int .i64 k) (.int .i64 n) (.slice ao l.length cc) 26
      have hlt : w.heap.size + 1 < w4.heap.size := cell_in (bd_facts hM4.right).1
      have hE : ((w4.alloc (.cells #[.int .i64 k, .int .i64 n, .slice ao l.length cc] 26)).alloc (.cells #[] 40)).ownsRow (w4.heap.size + 1) 40 2 (.slice (some ⟨w4.heap.size + 1, 0, none⟩) 0 0) 0 [] := by
        have := row_empty (w4.alloc (.cells #[.int .i64 k, .int .i64 n, .slice ao l.length cc] 26)) 40 2 _ (Nat.le_refl _)
        rw [alloc_size] at this
        exact this
      have hsz : ((w4.alloc (.cells #[.int .i64 k, .int .i64 n, .slice ao l.length cc] 26)).alloc (.cells #[] 40)).heap.size = w4.heap.size + 1 + 1 := by rw [alloc_size, alloc_size]
      have hA6 := World.grownBy_alloc (w4.alloc (.cells #[.int .i64 k, .int .i64 n, .slice ao l.length cc] 26)) (.cells #[] 40) none
      have H6 := Lib.hid (And.intro (((hM4.kept hO.grown).app (hO.base hM4.grown)).kept hA6) (And.intro (own_kept (own_kept hown hO.grown) hA6) (And.intro hE (And.intro hsz (And.intro (show w.heap.size + 1 < w3.heap.size from cell_in (bd_facts H3.out.1.right).1) H3.out.1.grown.size)))))
      have H4R := Lib.hid hown
      have H4S := Lib.hid hg.size
      clear hg hown b0 b1 b2 r0 r1 r2 hM4 hO hE hsz hA6
      go_wp2_with fail
      generalize hw6 : (w4.alloc (.cells #[.int .i64 k, .int .i64 n, .slice ao l.length cc] 26)).alloc (.cells #[] 40) = w6 at *
      clear hw6
      go_loopw [7, 8] (fun v i wr => AkRel w w3.heap.size (w4.heap.size + 1) w4.heap.size u n a c l k ao cc v i wr) (fun _ i _ => l.length - (intOf i).toNat)
      case atStart => exact ⟨0, [], Nat.zero_le _, rfl, H6.out.1, H6.out.2.1, H6.out.2.2.1, by simp, Nat.zero_le _, by have := H6.out.2.2.2.1; omega⟩
      case round =>
        obtain ⟨j, hs, hj, rfl, hm, hrow, hown, hf, hlen, hsz⟩ := hrel
        have HS := Lib.hid (And.intro hm (And.intro hrow (And.intro hown hf)))
        clear hm hrow hown hf
        obtain ⟨b0, b1, b2⟩ := bd_facts HS.out.1.left.left
        obtain ⟨o0, o1, o2⟩ := bd_facts HS.out.1.right
        have hB1 : w4.heap.size < wr.heap.size := cell_in o0
        by_cases hlt2 : j < l.length
        · rcases (rg_own HS.out.2.1) with hn2 | ⟨b, off, rfl, hb, hc⟩
          · rw [hn2] at hlt2
            simp at hlt2
          · obtain ⟨c0, c1⟩ := hc j hlt2
            clear hc
            have hlt' : (j : Int) < (l.length : Int) := by omega
            have HD := Lib.hid (List.drop_eq_getElem_cons hlt2)
            generalize l[j] = x at *
            obtain ⟨f, t⟩ := x
            dsimp only at c0 c1
            have HF := HS.out.2.2.2
            rw [HD.out, beyF, ← List.append_assoc] at HF
            have HM2 := Lib.hid (show ∀ q, (if f < k + 1 then k + 1 else f) = q → (hs ++ hole q t) ++ beyF k (List.drop (j + 1) l) = beyF k l from fun q hq => by rw [← hq]; exact HF)
            clear HF
            have HX := Lib.hid (show ∀ q, (hs ++ hole q t).length ≤ j + 1 from fun q => by have := hole_len q t; rw [List.length_append]; omega)
            have HA := Lib.hid (show ∀ q : Int, Mine w (bdCells w.heap.size (.int .i64 u) (.int .i64 n) (.slice a l.length c) ++ bdCells (w.heap.size + 1) (.int .i64 0) (.int .i64 0) (.slice none 0 0) ++ bdCells w4.heap.size (.int .i64 k) (.int .i64 n) (.slice (some ⟨b, off, none⟩) l.length cc)) (wr.alloc (.cells #[.int .i64 q, .int .i64 t] 40)) ∧ OwnRg (wr.alloc (.cells #[.int .i64 q, .int .i64 t] 40)) w3.heap.size (some ⟨b, off, none⟩) cc l ∧ (wr.alloc (.cells #[.int .i64 q, .int .i64 t] 40)).ownsRow (w4.heap.size + 1) 40 2 u7 hs.length (rgsV hs) ∧ (wr.alloc (.cells #[.int .i64 q, .int .i64 t] 40)).heap.size = wr.heap.size + 1 from fun q => ⟨HS.out.1.kept (World.grownBy_alloc _ _ _), own_kept HS.out.2.1 (World.grownBy_alloc _ _ _), HS.out.2.2.1.alloc _, alloc_size _ _⟩)
            by_cases hq : f < k + 1
            · have hq1 : f ≤ k + 1 := by omega
              have hq2 : ¬ k + 1 ≤ f := by omega
              have hq3 : ¬ k + 1 < f := by omega
              by_cases hqt : k + 1 < t
              · have HE2 := Lib.hid (show hole (k + 1) t = [(k + 1, t)] by rw [hole, if_pos hqt])
                go_wp2_with (at_builtin; refine wpList_append_own _ rfl _ _ 24 rfl (w4.heap.size + 1) 40 i0 _ 2 16 Try.underlying24 hi hz0 hz1 hz2 rfl (by decide) _ _ _ rfl ((HA.out (k + 1)).2.2.1.alloc _) ⟨wr.heap.size + 1, 0, none⟩ 1 1 [.int .i64 (k + 1), .int .i64 t] rfl rfl ?c1 ?c2 ?c3 ?c4 ?c5 ?_)
                try (case c1 => exact pair_new _ _ _ _ _ (HA.out (k + 1)).2.2.2.symm)
                case c2 => simp [Value.oneCell']
                case c3 => unfold maxLen; omega
                case c4 => omega
                case c5 => first | omega | (simp; omega)
                intro v' wz hown1 hg1 _
                have hA2 := (HA.out (k + 1)).2.2.1.alloc (.cells #[.int .i64 (k + 1), .int .i64 t] 40)
                have hgz := World.grownBy_alloc (wr.alloc (.cells #[.int .i64 (k + 1), .int .i64 t] 40)) (.cells #[.int .i64 (k + 1), .int .i64 t] 40) none
                have hmz := mark_mine (HA.out (k + 1)).1 hgz hg1 (fun g e => by
                  have h1 := (hA2.lt g e).1
                  have h2 := HS.out.1.grown.size
                  have h3 := H6.out.2.2.2.2.1
                  exact ⟨by have := H3.out.1.grown.size; omega, three_far (by omega) (by omega) (by omega)⟩)
                have hrz := mark_own (HA.out (k + 1)).2.1 hgz hg1 (fun g e g' e' => by
                  have h1 := (hA2.lt g e).1
                  have h2 := (H4R.out.lt g' e').2
                  omega)
                have HW := Lib.hid (And.intro hmz (And.intro hrz (And.intro (show wz.ownsRow (w4.heap.size + 1) 40 2 v' (hs ++ hole (k + 1) t).length (rgsV (hs ++ hole (k + 1) t)) by rw [HE2.out, rgsV_snoc, List.length_append, List.length_singleton]; exact hown1) (show w4.heap.size + 1 ≤ wz.heap.size by have := hg1.size; have := hgz.size; have := (HA.out (k + 1)).2.2.2; omega))))
                clear hown1 hg1 hA2 hgz hmz hrz
                go_wp2_with fail
                go_roundw
                case rel => exact ⟨j + 1, hs ++ hole (k + 1) t, hlt2, by go_num, HW.out.1, HW.out.2.1, HW.out.2.2.1, HM2.out (k + 1) (by rw [if_pos hq]), HX.out (k + 1), HW.out.2.2.2⟩
                case measure => simp [intOf]; omega
              · have hqt2 : t ≤ k + 1 := by omega
                have HE2 := Lib.hid (show hs ++ hole (k + 1) t = hs by rw [hole, if_neg (by omega)]; simp)
                have HQ2 := Lib.hid (HM2.out (k + 1) (by rw [if_pos hq]))
                go_wp2_with fail
                go_roundw
                case rel => exact ⟨j + 1, hs, hlt2, by go_num, (HA.out (k + 1)).1, (HA.out (k + 1)).2.1, (HA.out (k + 1)).2.2.1, by rw [← HQ2.out, HE2.out], by omega, by have := (HA.out (k + 1)).2.2.2; omega⟩
                case measure => simp [intOf]; omega
            · by_cases hq3 : k + 1 < f
              · have hq1 : k + 1 ≤ f := by omega
                have hq2 : ¬ f < k + 1 := by omega
                have hq4 : ¬ f ≤ k + 1 := by omega
                by_cases hqt : f < t
                · have HE2 := Lib.hid (show hole (f) t = [(f, t)] by rw [hole, if_pos hqt])
                  go_wp2_with (at_builtin; refine wpList_append_own _ rfl _ _ 24 rfl (w4.heap.size + 1) 40 i0 _ 2 16 Try.underlying24 hi hz0 hz1 hz2 rfl (by decide) _ _ _ rfl ((HA.out (f)).2.2.1.alloc _) ⟨wr.heap.size + 1, 0, none⟩ 1 1 [.int .i64 (f), .int .i64 t] rfl rfl ?d1 ?d2 ?d3 ?d4 ?d5 ?_)
                  try (case d1 => exact pair_new _ _ _ _ _ (HA.out (f)).2.2.2.symm)
                  case d2 => simp [Value.oneCell']
                  case d3 => unfold maxLen; omega
                  case d4 => omega
                  case d5 => first | omega | (simp; omega)
                  intro v' wz hown1 hg1 _
                  have hA2 := (HA.out (f)).2.2.1.alloc (.cells #[.int .i64 (f), .int .i64 t] 40)
                  have hgz := World.grownBy_alloc (wr.alloc (.cells #[.int .i64 (f), .int .i64 t] 40)) (.cells #[.int .i64 (f), .int .i64 t] 40) none
                  have hmz := mark_mine (HA.out (f)).1 hgz hg1 (fun g e => by
                    have h1 := (hA2.lt g e).1
                    have h2 := HS.out.1.grown.size
                    have h3 := H6.out.2.2.2.2.1
                    exact ⟨by have := H3.out.1.grown.size; omega, three_far (by omega) (by omega) (by omega)⟩)
                  have hrz := mark_own (HA.out (f)).2.1 hgz hg1 (fun g e g' e' => by
                    have h1 := (hA2.lt g e).1
                    have h2 := (H4R.out.lt g' e').2
                    omega)
                  have HW := Lib.hid (And.intro hmz (And.intro hrz (And.intro (show wz.ownsRow (w4.heap.size + 1) 40 2 v' (hs ++ hole (f) t).length (rgsV (hs ++ hole (f) t)) by rw [HE2.out, rgsV_snoc, List.length_append, List.length_singleton]; exact hown1) (show w4.heap.size + 1 ≤ wz.heap.size by have := hg1.size; have := hgz.size; have := (HA.out (f)).2.2.2; omega))))
                  clear hown1 hg1 hA2 hgz hmz hrz
                  go_wp2_with fail
                  go_roundw
                  case rel => exact ⟨j + 1, hs ++ hole (f) t, hlt2, by go_num, HW.out.1, HW.out.2.1, HW.out.2.2.1, HM2.out (f) (by rw [if_neg (by omega)]), HX.out (f), HW.out.2.2.2⟩
                  case measure => simp [intOf]; omega
                · have hqt2 : t ≤ f := by omega
                  have HE2 := Lib.hid (show hs ++ hole (f) t = hs by rw [hole, if_neg (by omega)]; simp)
                  have HQ2 := Lib.hid (HM2.out (f) (by rw [if_neg (by omega)]))
                  go_wp2_with fail
                  go_roundw
                  case rel => exact ⟨j + 1, hs, hlt2, by go_num, (HA.out (f)).1, (HA.out (f)).2.1, (HA.out (f)).2.2.1, by rw [← HQ2.out, HE2.out], by omega, by have := (HA.out (f)).2.2.2; omega⟩
                  case measure => simp [intOf]; omega
              · obtain rfl : f = k + 1 := by omega
                have hq2 : ¬ k + 1 < k + 1 := by omega
                by_cases hqt : k + 1 < t
                · have HE2 := Lib.hid (show hole (k + 1) t = [(k + 1, t)] by rw [hole, if_pos hqt])
                  go_wp2_with (at_builtin; refine wpList_append_own _ rfl _ _ 24 rfl (w4.heap.size + 1) 40 i0 _ 2 16 Try.underlying24 hi hz0 hz1 hz2 rfl (by decide) _ _ _ rfl ((HA.out (k + 1)).2.2.1.alloc _) ⟨wr.heap.size + 1, 0, none⟩ 1 1 [.int .i64 (k + 1), .int .i64 t] rfl rfl ?e1 ?e2 ?e3 ?e4 ?e5 ?_)
                  try (case e1 => exact pair_new _ _ _ _ _ (HA.out (k + 1)).2.2.2.symm)
                  case e2 => simp [Value.oneCell']
                  case e3 => unfold maxLen; omega
                  case e4 => omega
                  case e5 => first | omega | (simp; omega)
                  intro v' wz hown1 hg1 _
                  have hA2 := (HA.out (k + 1)).2.2.1.alloc (.cells #[.int .i64 (k + 1), .int .i64 t] 40)
                  have hgz := World.grownBy_alloc (wr.alloc (.cells #[.int .i64 (k + 1), .int .i64 t] 40)) (.cells #[.int .i64 (k + 1), .int .i64 t] 40) none
                  have hmz := mark_mine (HA.out (k + 1)).1 hgz hg1 (fun g e => by
                    have h1 := (hA2.lt g e).1
                    have h2 := HS.out.1.grown.size
                    have h3 := H6.out.2.2.2.2.1
                    exact ⟨by have := H3.out.1.grown.size; omega, three_far (by omega) (by omega) (by omega)⟩)
                  have hrz := mark_own (HA.out (k + 1)).2.1 hgz hg1 (fun g e g' e' => by
                    have h1 := (hA2.lt g e).1
                    have h2 := (H4R.out.lt g' e').2
                    omega)
                  have HW := Lib.hid (And.intro hmz (And.intro hrz (And.intro (show wz.ownsRow (w4.heap.size + 1) 40 2 v' (hs ++ hole (k + 1) t).length (rgsV (hs ++ hole (k + 1) t)) by rw [HE2.out, rgsV_snoc, List.length_append, List.length_singleton]; exact hown1) (show w4.heap.size + 1 ≤ wz.heap.size by have := hg1.size; have := hgz.size; have := (HA.out (k + 1)).2.2.2; omega))))
                  clear hown1 hg1 hA2 hgz hmz hrz
                  go_wp2_with fail
                  go_roundw
                  case rel => exact ⟨j + 1, hs ++ hole (k + 1) t, hlt2, by go_num, HW.out.1, HW.out.2.1, HW.out.2.2.1, HM2.out (k + 1) (by rw [if_neg (by omega)]), HX.out (k + 1), HW.out.2.2.2⟩
                  case measure => simp [intOf]; omega
                · have hqt2 : t ≤ k + 1 := by omega
                  have HE2 := Lib.hid (show hs ++ hole (k + 1) t = hs by rw [hole, if_neg (by omega)]; simp)
                  have HQ2 := Lib.hid (HM2.out (k + 1) (by rw [if_neg (by omega)]))
                  go_wp2_with fail
                  go_roundw
                  case rel => exact ⟨j + 1, hs, hlt2, by go_num, (HA.out (k + 1)).1, (HA.out (k + 1)).2.1, (HA.out (k + 1)).2.2.1, by rw [← HQ2.out, HE2.out], by omega, by have := (HA.out (k + 1)).2.2.2; omega⟩
                  case measure => simp [intOf]; omega
        · obtain rfl : j = l.length := by omega
          have HF := Lib.hid HS.out.2.2.2
          rw [List.drop_length, beyF, List.append_nil] at HF
          obtain ⟨av, cv, rfl⟩ := own_slice HS.out.2.2.1
          have hown : OwnRg wr (w4.heap.size + 1) av cv hs := HS.out.2.2.1
          have hput := (bd_put HS.out.1 (two_far (by have := H6.out.2.2.2.2.1; have := H4S.out; omega) (by have := H6.out.2.2.2.2.1; have := H4S.out; omega))).2.2 (.slice av hs.length cv)
          have HPT := Lib.hid (And.intro hput hown)
          obtain ⟨r0, r1, r2⟩ := bd_facts HS.out.1.left.right
          obtain ⟨f0, f1, f2⟩ := bd_frees HS.out.1.left.right
          obtain ⟨y0, y1, y2⟩ := bd_frees HS.out.1.right
          clear hput hown
          have hB2 : w.heap.size + 1 < w4.heap.size := by have := H6.out.2.2.2.2.1; have := H6.out.2.2.2.2.2; have := H4S.out; omega
          have hB3 : w.heap.size < w4.heap.size := by omega
          go_wp2_with fail
          have hgr := res3_grown (R := w.heap.size + 1) (.int .i64 k) (.int .i64 n) (.slice av hs.length cv) HPT.out.1.grown (by omega)
          refine bodyPost_ret (v := .tuple #[bdV k n av hs.length cv, .bool true]) ?_ rfl (bd_as HN.out ⟨av, cv, ?_, hgr, ?_⟩)
          · simp [results, Try.results14, go_sem, r0, r1, r2]
          · rw [← HF.out]
          · rw [← HF.out]
            exact own_base (own_setB (own_setB (own_setB (own_setB HPT.out.2 (by omega)) (by omega)) (by omega)) (by omega)) (by omega)

end Go.Proofs.Ytedgfiagefhahaa
