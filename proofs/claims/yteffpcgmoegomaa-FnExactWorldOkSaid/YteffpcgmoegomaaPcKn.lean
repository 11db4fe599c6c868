/- What is known from the beginning on, and how many bytes are known: the program's and the model's. -/
import Derived.Test.YteffpcgmoegomaaPcOkS
namespace Go.Proofs.Yteffpcgmoegomaa.P7
open Go.RowKit

noncomputable def prefL (l : List Pk) : List UInt8 := if pcsOk l = true then (match l with | [] => [] | p :: _ => if p.1 ≤ 0 then p.2 else []) else []
def sumTo (l : List Pk) (j : Nat) : Int := ((l.take j).map fun x => (x.2.length : Int)).sum
theorem sumTo_next (l : List Pk) (j : Nat) (h : j < l.length) : sumTo l (j + 1) = sumTo l j + (l[j].2.length : Int) := by
  unfold sumTo
  rw [List.take_succ_eq_append_getElem h]
  simp only [List.map_append, List.map_cons, List.map_nil, List.sum_append, List.sum_cons, List.sum_nil]
  omega
theorem sumTo_bd (l : List Pk) (hp : ∀ x ∈ l, pc1 x) : ∀ j, j ≤ l.length → 0 ≤ sumTo l j ∧ sumTo l j ≤ 6000 * (j : Int)
  | 0, _ => by simp [sumTo]
  | j + 1, h => by
    obtain ⟨a, b⟩ := sumTo_bd l hp j (by omega)
    have := (hp _ (List.getElem_mem (show j < l.length by omega))).2.2.2
    rw [sumTo_next l j (by omega)]
    omega
noncomputable def knownL (l : List Pk) : Int := if pcsOk l = true then sumTo l l.length else 0
theorem pk_first {w : World} {a : Option Addr} {p : Pk} {l : List Pk} (h : PkAt w a (p :: l)) : ∃ b off, a = some ⟨b, off, none⟩ ∧ w.cell? ⟨b, off, none⟩ = some (.int .i64 p.1) ∧ w.cell? ⟨b, off + 1, none⟩ = some (.string ⟨p.2.toArray⟩) := by
  rcases h with h | ⟨b, off, ha, hb, hc⟩
  · cases h
  · have := hc 0 (by simp)
    simp only [Nat.zero_mul, Nat.add_zero, List.getElem_cons_zero] at this
    exact ⟨b, off, ha, this⟩

set_option maxRecDepth 100000 in
set_option maxHeartbeats 2000000 in
theorem pref_impl (a : Option Addr) (c : Nat) (l : List Pk) (w : World) (h : PkAt w a l) : Calls Try.prog 76 #[.slice a l.length c] w (StrPost w (prefL l)) := by
  have H := Lib.hid h
  clear h
  cases hok : pcsOk l
  · have HE := Lib.hid (show prefL l = [] by simp [prefL, hok])
    go_enter Try.func76, Try.ntmps76
    go_wp2_with fail
    refine (ok_impl _ _ _ _ H.out).mono ?_
    rintro e w1 ⟨rfl, hg⟩
    rw [hok]
    have HG := Lib.hid hg
    clear hg
    go_wp2_with fail
    go_ret
    exact ⟨ret_ba (by rw [HE.out]), HG.out⟩
  · cases l with
    | nil =>
      have HE := Lib.hid (show prefL [] = [] by simp [prefL])
      go_enter Try.func76, Try.ntmps76
      go_wp2_with fail
      refine (ok_impl _ _ _ _ H.out).mono ?_
      rintro e w1 ⟨rfl, hg⟩
      rw [hok]
      have HG := Lib.hid hg
      clear hg
      go_wp2_with fail
      go_ret
      exact ⟨ret_ba (by rw [HE.out]), HG.out⟩
    | cons p l =>
      obtain ⟨t, m⟩ := p
      by_cases ht : t ≤ 0
      · have ht' : ¬ 0 < t := by omega
        have hn1 : (0 : Int) < ((l.length : Int) + 1) := by omega
        have hn2 : ((l.length : Int) + 1 == 0) = false := by rw [beq_eq_false_iff_ne]; omega
        have HE := Lib.hid (show prefL ((t, m) :: l) = m by simp [prefL, hok, ht])
        go_enter Try.func76, Try.ntmps76
        go_wp2_with fail
        refine (ok_impl _ _ _ _ H.out).mono ?_
        rintro e w1 ⟨rfl, hg⟩
        rw [hok]
        obtain ⟨b, off, rfl, c0, c1⟩ := pk_first (H.out.kept hg)
        dsimp only at c0 c1
        have HG := Lib.hid hg
        clear hg
        go_wp2_with fail
        go_ret
        exact ⟨ret_ba (by rw [HE.out]), HG.out⟩
      · have ht' : 0 < t := by omega
        have hn1 : (0 : Int) < ((l.length : Int) + 1) := by omega
        have hn2 : ((l.length : Int) + 1 == 0) = false := by rw [beq_eq_false_iff_ne]; omega
        have HE := Lib.hid (show prefL ((t, m) :: l) = [] by simp [prefL, hok, ht])
        go_enter Try.func76, Try.ntmps76
        go_wp2_with fail
        refine (ok_impl _ _ _ _ H.out).mono ?_
        rintro e w1 ⟨rfl, hg⟩
        rw [hok]
        obtain ⟨b, off, rfl, c0, c1⟩ := pk_first (H.out.kept hg)
        dsimp only at c0 c1
        have HG := Lib.hid hg
        clear hg
        go_wp2_with fail
        go_ret
        exact ⟨ret_ba (by rw [HE.out]), HG.out⟩

set_option maxRecDepth 100000 in
set_option maxHeartbeats 2000000 in
theorem pref_spec (a : Option Addr) (c : Nat) (l : List Pk) (w : World) (h : PkAt w a l) (hl : l.length ≤ 9223372036854775807) : Calls Try.prog 29 #[.slice a l.length c] w (StrPost w (prefL l)) := by
  have H := Lib.hid h
  clear h
  cases hok : pcsOk l
  · have HE := Lib.hid (show prefL l = [] by simp [prefL, hok])
    go_enter Try.func29, Try.ntmps29
    go_wp2_with fail
    refine (ok_spec _ _ _ _ H.out hl).mono ?_
    rintro e w1 ⟨rfl, hg⟩
    rw [hok]
    have HG := Lib.hid hg
    clear hg
    go_wp2_with fail
    go_ret
    exact ⟨ret_ba (by rw [HE.out]), HG.out⟩
  · cases l with
    | nil =>
      have HE := Lib.hid (show prefL [] = [] by simp [prefL])
      go_enter Try.func29, Try.ntmps29
      go_wp2_with fail
      refine (ok_spec _ _ _ _ H.out hl).mono ?_
      rintro e w1 ⟨rfl, hg⟩
      rw [hok]
      have HG := Lib.hid hg
      clear hg
      go_wp2_with fail
      go_ret
      exact ⟨ret_ba (by rw [HE.out]), HG.out⟩
    | cons p l =>
      obtain ⟨t, m⟩ := p
      by_cases ht : t ≤ 0
      · have ht' : ¬ 0 < t := by omega
        have hn1 : (0 : Int) < ((l.length : Int) + 1) := by omega
        have hn2 : ((l.length : Int) + 1 == 0) = false := by rw [beq_eq_false_iff_ne]; omega
        have HE := Lib.hid (show prefL ((t, m) :: l) = m by simp [prefL, hok, ht])
        go_enter Try.func29, Try.ntmps29
        go_wp2_with fail
        refine (ok_spec _ _ _ _ H.out hl).mono ?_
        rintro e w1 ⟨rfl, hg⟩
        rw [hok]
        obtain ⟨b, off, rfl, c0, c1⟩ := pk_first (H.out.kept hg)
        dsimp only at c0 c1
        have HG := Lib.hid hg
        clear hg
        go_wp2_with fail
        go_ret
        exact ⟨ret_ba (by rw [HE.out]), HG.out⟩
      · have ht' : 0 < t := by omega
        have hn1 : (0 : Int) < ((l.length : Int) + 1) := by omega
        have hn2 : ((l.length : Int) + 1 == 0) = false := by rw [beq_eq_false_iff_ne]; omega
        have HE := Lib.hid (show prefL ((t, m) :: l) = [] by simp [prefL, hok, ht])
        go_enter Try.func29, Try.ntmps29
        go_wp2_with fail
        refine (ok_spec _ _ _ _ H.out hl).mono ?_
        rintro e w1 ⟨rfl, hg⟩
        rw [hok]
        obtain ⟨b, off, rfl, c0, c1⟩ := pk_first (H.out.kept hg)
        dsimp only at c0 c1
        have HG := Lib.hid hg
        clear hg
        go_wp2_with fail
        go_ret
        exact ⟨ret_ba (by rw [HE.out]), HG.out⟩

def KnRel (w : World) (l : List Pk) (n i : Value) (wr : World) : Prop :=
  ∃ j : Nat, j ≤ l.length ∧ i = .int .i64 j ∧ n = .int .i64 (sumTo l j) ∧ w.grownBy wr none

end Go.Proofs.Yteffpcgmoegomaa.P7
