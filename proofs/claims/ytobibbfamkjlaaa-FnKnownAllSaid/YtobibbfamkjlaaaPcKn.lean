/- What is known from the beginning on, and how many bytes are known: the program's and the model's. -/
import Derived.Test.YtobibbfamkjlaaaPcOkS
namespace Go.Proofs.Ytobibbfamkjlaaa
open Go.RowKit

noncomputable def prefL (l : List Pk) : List UInt8 := if pcsOk l = true then (match l with | [] => [] | p :: _ => if p.1 ≤ 0 then p.2 else []) else []
def sumTo (l : List Pk) (j : Nat) : Int := ((l.take j).map fun x => (x.2.length : Int)).sum
theorem sumTo_next (l : List Pk) (j : Nat) (h : j < l.length) : sumTo l (j + 1) = sumTo l j + (l[j].2.length : Int) := by
  unfold sumTo
  rw [List.take_succ_eq_append_getElem h]
  simp only [List.map_append, List.map_cons, List.map_nil, List.sum_append, List.sum_cons, List.sum_nil]
  omega
theorem sumTo_bd (l : List Pk) (hp : ∀ x ∈ l, pc1 x) : ∀ j, j ≤ l.length → 0 ≤ sumTo l j ∧ sumTo l j ≤ 6000 * (j : Int)
  | 0, _ => by simp [sumTo]
  | j + 1, h => by
    obtain ⟨a, b⟩ := sumTo_bd l hp j (by omega)
    have := (hp _ (List.getElem_mem (show j < l.length by omega))).2.2.2
    rw [sumTo_next l j (by omega)]
    omega
noncomputable def knownL (l : List Pk) : Int := if pcsOk l = true then sumTo l l.length else 0
theorem pk_first {w : World} {a : Option Addr} {p : Pk} {l : List Pk} (h : PkAt w a (p :: l)) : ∃ b off, a = some ⟨b, off, none⟩ ∧ w.cell? ⟨b, off, none⟩ = some (.int .i64 p.1) ∧ w.cell? ⟨b, off + 1, none⟩ = some (.string ⟨p.2.toArray⟩) := by
  rcases h with h | ⟨b, off, ha, hb, hc⟩
  · cases h
  · have := hc 0 (by simp)
    simp only [Nat.zero_mul, Nat.add_zero, List.getElem_cons_zero] at this
    exact ⟨b, off, ha, this⟩

set_option maxRecDepth 100000 in
set_option maxHeartbeats 2000000 in
theorem pref_impl (a : Option Addr) (c : Nat) (l : List Pk) (w : World) (h : PkAt w a l) : Calls Try.prog 13 #[.slice a l.length c] w (StrPost w (prefL l)) := by
  have H := Lib.hid h
  clear h
  cases hok : pcsOk l
  · have HE := Lib.hid (show prefL l = [] by simp [prefL, hok])
    go_enter Try.func13, Try.ntmps13
    go_wp2_with fail
    refine (ok_impl _ _ _ _ H.out).mono ?_
    rintro e w1 ⟨rfl, hg⟩
    rw [hok]
    have HG := Lib.hid hg
    clear hg
    go_wp2_with fail
    go_ret
    exact ⟨ret_ba (by rw [HE.out]), HG.out⟩
  · cases l with
    | nil =>
      have HE := Lib.hid (show prefL [] = [] by simp [prefL])
      go_enter Try.func13, Try.ntmps13
      go_wp2_with fail
      refine (ok_impl _ _ _ _ H.out).mono ?_
      rintro e w1 ⟨rfl, hg⟩
      rw [hok]
      have HG := Lib.hid hg
      clear hg
      go_wp2_with fail
      go_ret
      exact ⟨ret_ba (by rw [HE.out]), HG.out⟩
    | cons p l =>
      obtain ⟨t, m⟩ := p
      by_cases ht : t ≤ 0
      · have ht' : ¬ 0 < t := by omega
        have hn1 : (0 : Int) < ((l.length : Int) + 1) := by omega
        have hn2 : ((l.length : Int) + 1 == 0) = false := by rw [beq_eq_false_iff_ne]; omega
        have HE := Lib.hid (show prefL ((t, m) :: l) = m by simp [prefL, hok, ht])
        go_enter Try.func13, Try.ntmps13
        go_wp2_with fail
        refine (ok_impl _ _ _ _ H.out).mono ?_
        rintro e w1 ⟨rfl, hg⟩
        rw [hok]
        obtain ⟨b, off, rfl, c0, c1⟩ := pk_first (H.out.kept hg)
        dsimp only at c0 c1
        have HG := Lib.hid hg
        clear hg
        go_wp2_with fail
        go_ret
        exact ⟨ret_ba (by rw [HE.out]), HG.out⟩
      · have ht' : 0 < t := by omega
        have hn1 : (0 : Int) < ((l.length : Int) + 1) := by omega
        have hn2 : ((l.length : Int) + 1 == 0) = false := by rw [beq_eq_false_iff_ne]; omega
        have HE := Lib.hid (show prefL ((t, m) :: l) = [] by simp [prefL, hok, ht])
        go_enter Try.func13, Try.ntmps13
        go_wp2_with fail
        refine (ok_impl _ _ _ _ H.out).mono ?_
        rintro e w1 ⟨rfl, hg⟩
        rw [hok]
        obtain ⟨b, off, rfl, c0, c1⟩ := pk_first (H.out.kept hg)
        dsimp only at c0 c1
        have HG := Lib.hid hg
        clear hg
        go_wp2_with fail
        go_ret
        exact ⟨ret_ba (by rw [HE.out]), HG.out⟩

set_option maxRecDepth 100000 in
set_option maxHeartbeats 2000000 in
theorem pref_spec (a : Option Addr) (c : Nat) (l : List Pk) (w : World) (h : PkAt w a l) (hl : l.length ≤ 9223372036854775807) : Calls Try.prog 14 #[.slice a l.length c] w (StrPost w (prefL l)) := by
  have H := Lib.hid h
  clear h
  cases hok : pcsOk l
  · have HE := Lib.hid (show prefL l = [] by simp [prefL, hok])
    go_enter Try.func14, Try.ntmps14
    go_wp2_with fail
    refine (ok_spec _ _ _ _ H.out hl).mono ?_
    rintro e w1 ⟨rfl, hg⟩
    rw [hok]
    have HG := Lib.hid hg
    clear hg
    go_wp2_with fail
    go_ret
    exact ⟨ret_ba (by rw [HE.out]), HG.out⟩
  · cases l with
    | nil =>
      have HE := Lib.hid (show prefL [] = [] by simp [prefL])
      go_enter Try.func14, Try.ntmps14
      go_wp2_with fail
      refine (ok_spec _ _ _ _ H.out hl).mono ?_
      rintro e w1 ⟨rfl, hg⟩
      rw [hok]
      have HG := Lib.hid hg
      clear hg
      go_wp2_with fail
      go_ret
      exact ⟨ret_ba (by rw [HE.out]), HG.out⟩
    | cons p l =>
      obtain ⟨t, m⟩ := p
      by_cases ht : t ≤ 0
      · have ht' : ¬ 0 < t := by omega
        have hn1 : (0 : Int) < ((l.length : Int) + 1) := by omega
        have hn2 : ((l.length : Int) + 1 == 0) = false := by rw [beq_eq_false_iff_ne]; omega
        have HE := Lib.hid (show prefL ((t, m) :: l) = m by simp [prefL, hok, ht])
        go_enter Try.func14, Try.ntmps14
        go_wp2_with fail
        refine (ok_spec _ _ _ _ H.out hl).mono ?_
        rintro e w1 ⟨rfl, hg⟩
        rw [hok]
        obtain ⟨b, off, rfl, c0, c1⟩ := pk_first (H.out.kept hg)
        dsimp only at c0 c1
        have HG := Lib.hid hg
        clear hg
        go_wp2_with fail
        go_ret
        exact ⟨ret_ba (by rw [HE.out]), HG.out⟩
      · have ht' : 0 < t := by omega
        have hn1 : (0 : Int) < ((l.length : Int) + 1) := by omega
        have hn2 : ((l.length : Int) + 1 == 0) = false := by rw [beq_eq_false_iff_ne]; omega
        have HE := Lib.hid (show prefL ((t, m) :: l) = [] by simp [prefL, hok, ht])
        go_enter Try.func14, Try.ntmps14
        go_wp2_with fail
        refine (ok_spec _ _ _ _ H.out hl).mono ?_
        rintro e w1 ⟨rfl, hg⟩
        rw [hok]
        obtain ⟨b, off, rfl, c0, c1⟩ := pk_first (H.out.kept hg)
        dsimp only at c0 c1
        have HG := Lib.hid hg
        clear hg
        go_wp2_with fail
        go_ret
        exact ⟨ret_ba (by rw [HE.out]), HG.out⟩

def KnRel (w : World) (l : List Pk) (n i : Value) (wr : World) : Prop :=
  ∃ j : Nat, j ≤ l.length ∧ i = .int .i64 j ∧ n = .int .i64 (sumTo l j) ∧ w.grownBy wr none

set_option maxRecDepth 100000 in
set_option maxHeartbeats 2000000 in
theorem known_impl (a : Option Addr) (c : Nat) (l : List Pk) (w : World) (h : PkAt w a l) : Calls Try.prog 15 #[.slice a l.length c] w fun e w' => e = .returned (.int .i64 (knownL l)) ∧ w.grownBy w' none := by
  have H := Lib.hid h
  clear h
  cases hok : pcsOk l
  · have HE := Lib.hid (show knownL l = 0 by rw [knownL, hok]; rfl)
    go_enter Try.func15, Try.ntmps15
    go_wp2_with fail
    refine (ok_impl _ _ _ _ H.out).mono ?_
    rintro e w1 ⟨rfl, hg⟩
    rw [hok]
    have HG := Lib.hid hg
    clear hg
    go_wp2_with fail
    go_ret
    exact ⟨ret_i HE.out.symm, HG.out⟩
  · have HE := Lib.hid (show knownL l = sumTo l l.length by rw [knownL, if_pos hok])
    have HP := Lib.hid (pcs_of hok)
    have hl : l.length ≤ 60 := HP.out.1
    go_enter Try.func15, Try.ntmps15
    go_wp2_with fail
    refine (ok_impl _ _ _ _ H.out).mono ?_
    rintro e w1 ⟨rfl, hg⟩
    rw [hok]
    have HG := Lib.hid hg
    clear hg hok
    go_wp2_with fail
    go_loopw [3, 11] (fun n i wr => KnRel w l n i wr) (fun _ i _ => l.length - (intOf i).toNat)
    case atStart => exact ⟨0, Nat.zero_le _, rfl, by simp [sumTo], HG.out⟩
    case round =>
      obtain ⟨j, hj, rfl, rfl, hg⟩ := hrel
      have HS := Lib.hid hg
      clear hg
      by_cases hlt : j < l.length
      · rcases (H.out.kept HS.out) with h0 | ⟨b, off, rfl, hb, hc⟩
        · rw [h0] at hlt
          simp at hlt
        · obtain ⟨c0, c1⟩ := hc j hlt
          clear hc
          have hlt' : (j : Int) < (l.length : Int) := by omega
          have hbd := sumTo_bd l HP.out.2.1 j hj
          have hbx := (HP.out.2.1 _ (List.getElem_mem hlt)).2.2.2
          have HN := Lib.hid (sumTo_next l j hlt)
          generalize l[j] = x at *
          obtain ⟨t, m⟩ := x
          dsimp only at c0 c1 hbx HN
          generalize hs : sumTo l j = s at *
          have hw : IntKind.i64.wrap (s + (m.length : Int)) = s + m.length := IntWalk.i64_in _ (by omega)
          clear hs hbd hbx
          go_wp2_with fail
          go_roundw
          case rel => exact ⟨j + 1, hlt, by go_num, by rw [HN.out], grownBy_trans HS.out (World.grownBy_alloc _ _ _)⟩
          case measure => simp [intOf]; omega
      · obtain rfl : j = l.length := by omega
        go_wp2_with fail
        go_ret
        exact ⟨ret_i HE.out.symm, HS.out⟩

set_option maxRecDepth 100000 in
set_option maxHeartbeats 2000000 in
theorem known_spec (a : Option Addr) (c : Nat) (l : List Pk) (w : World) (h : PkAt w a l) (hl : l.length ≤ 9223372036854775807) : Calls Try.prog 16 #[.slice a l.length c] w fun e w' => e = .returned (.int .i64 (knownL l)) ∧ w.grownBy w' none := by
  have H := Lib.hid h
  clear h
  cases hok : pcsOk l
  · have HE := Lib.hid (show knownL l = 0 by rw [knownL, hok]; rfl)
    go_enter Try.func16, Try.ntmps16
    go_wp2_with fail
    refine wp_loop_rounds 1 ?_
    rw [rounds_succ]
    go_wp2_with fail
    refine (ok_spec _ _ _ _ H.out hl).mono ?_
    rintro e w1 ⟨rfl, hg⟩
    rw [hok]
    have HG := Lib.hid hg
    clear hg
    go_wp2_with fail
    go_ret
    exact ⟨ret_i HE.out.symm, HG.out⟩
  · have HE := Lib.hid (show knownL l = sumTo l l.length by rw [knownL, if_pos hok])
    have HP := Lib.hid (pcs_of hok)
    have hl : l.length ≤ 60 := HP.out.1
    go_enter Try.func16, Try.ntmps16
    go_wp2_with fail
    go_loopw [3, 4] (fun n i wr => KnRel w l n i wr) (fun _ i _ => l.length - (intOf i).toNat)
    case atStart => exact ⟨0, Nat.zero_le _, rfl, by simp [sumTo], World.grownBy.refl _ _⟩
    case round =>
      obtain ⟨j, hj, rfl, rfl, hg⟩ := hrel
      have HS := Lib.hid hg
      clear hg
      go_wp2_with fail
      refine (ok_spec _ _ _ _ (H.out.kept HS.out) (by omega)).mono ?_
      rintro e w1 ⟨rfl, hg⟩
      rw [hok]
      have HT := Lib.hid (grownBy_trans HS.out hg)
      clear hg
      by_cases hlt : j < l.length
      · rcases (H.out.kept HT.out) with h0 | ⟨b, off, rfl, hb, hc⟩
        · rw [h0] at hlt
          simp at hlt
        · obtain ⟨c0, c1⟩ := hc j hlt
          clear hc
          have hlt' : (j : Int) < (l.length : Int) := by omega
          have hbd := sumTo_bd l HP.out.2.1 j hj
          have hbx := (HP.out.2.1 _ (List.getElem_mem hlt)).2.2.2
          have HN := Lib.hid (sumTo_next l j hlt)
          generalize l[j] = x at *
          obtain ⟨t, m⟩ := x
          dsimp only at c0 c1 hbx HN
          generalize hs : sumTo l j = s at *
          have hw : IntKind.i64.wrap (s + (m.length : Int)) = s + m.length := IntWalk.i64_in _ (by omega)
          clear hs hbd hbx
          go_wp2_with fail
          go_roundw
          case rel => exact ⟨j + 1, hlt, by go_num, by rw [HN.out], HT.out⟩
          case measure => simp [intOf]; omega
      · obtain rfl : j = l.length := by omega
        go_wp2_with fail
        go_ret
        exact ⟨ret_i HE.out.symm, HT.out⟩

end Go.Proofs.Ytobibbfamkjlaaa
