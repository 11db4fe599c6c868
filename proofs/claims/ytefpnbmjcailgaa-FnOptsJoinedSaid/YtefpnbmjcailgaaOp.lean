/- Options: which are right, the first of a kind; both. -/
import Derived.Test.YtefpnbmjcailgaaOpM
namespace Go.Proofs.Ytefpnbmjcailgaa
open Go.RowKit

def opP (o : Pk) : Prop := 2 ≤ o.1 ∧ o.1 ≤ 255 ∧ o.2.length ≤ 38
instance (o : Pk) : Decidable (opP o) := by unfold opP; infer_instance
def szO : List Pk → Nat
  | [] => 0
  | o :: l => (2 + o.2.length) + szO l
theorem szO_app : ∀ l m : List Pk, szO (l ++ m) = szO l + szO m
  | [], m => by simp [szO]
  | x :: l, m => by
    have := szO_app l m
    rw [List.cons_append, szO, szO]
    omega
theorem szO_next (l : List Pk) (j : Nat) (h : j < l.length) : szO (l.take (j + 1)) = szO (l.take j) + (2 + (l[j]).2.length) := by
  rw [List.take_succ_eq_append_getElem h, szO_app, szO, szO]
  omega
theorem szO_bd (l : List Pk) (hp : ∀ o ∈ l, opP o) : szO l ≤ 40 * l.length := by
  induction l with
  | nil => simp [szO]
  | cons o l ih =>
    have h1 := ih (fun x hx => hp x (List.mem_cons_of_mem _ hx))
    have h2 := (hp o (List.mem_cons_self ..)).2.2
    rw [szO, List.length_cons]
    omega
def opsP (l : List Pk) : Prop := l.length ≤ 20 ∧ (∀ o ∈ l, opP o) ∧ szO l ≤ 40
instance (l : List Pk) : Decidable (opsP l) := by unfold opsP; infer_instance
def opsOk (l : List Pk) : Bool := decide (opsP l)
theorem ops_yes {l : List Pk} (h : opsP l) : opsOk l = true := decide_eq_true h
theorem ops_no {l : List Pk} (h : ¬ opsP l) : opsOk l = false := decide_eq_false h
theorem ops_of {l : List Pk} (h : opsOk l = true) : opsP l := of_decide_eq_true h

set_option maxRecDepth 100000 in
theorem byte_any (m : Int) (w : World) : Calls Try.prog 54 #[.int .i64 m] w fun e w' => e = .returned (.bool (inB m 0 255)) ∧ w = w' := by
  go_enter Try.func54, Try.ntmps54
  go_wp2
  all_goals
    go_ret
    refine ⟨ret_b ?_, rfl⟩
    rw [Bool.eq_iff_iff]
    simp [inB]
    omega

set_option maxRecDepth 100000 in
theorem opok_any (k : Int) (m : List UInt8) (w : World) (hm : (m.length : Int) ≤ 9223372036854775807) : Calls Try.prog 44 #[.agg #[.int .i64 k, .string ⟨m.toArray⟩]] w fun e w' => e = .returned (.bool (decide (opP (k, m)))) ∧ w.grownBy w' none := by
  by_cases h1 : 2 ≤ k
  · cases h2 : inB k 0 255
    · have g2 := in_not h2
      have H2 := Lib.hid h2
      clear h2
      go_enter Try.func44, Try.ntmps44
      go_wp2_with (go_at_call 54; refine (byte_any _ _).mono ?_; rintro e w' ⟨rfl, rfl⟩; rw [H2.out])
      go_ret
      exact ⟨ret_b (decide_eq_false (fun h : opP (k, m) => by have h3 := h.1; have h4 := h.2.1; dsimp only at h3 h4; omega)).symm, World.grownBy_alloc _ _ _⟩
    · have g2 := in_of h2
      have H2 := Lib.hid h2
      clear h2
      by_cases h3 : m.length ≤ 38
      · have h3' : (m.length : Int) ≤ 38 := by omega
        go_enter Try.func44, Try.ntmps44
        go_wp2_with (go_at_call 54; refine (byte_any _ _).mono ?_; rintro e w' ⟨rfl, rfl⟩; rw [H2.out])
        go_ret
        exact ⟨ret_b (by rw [decide_eq_true (show opP (k, m) from ⟨h1, g2.2, h3⟩)]; first | done | (simp; done) | (simp; omega)), World.grownBy_alloc _ _ _⟩
      · have h3' : ¬ (m.length : Int) ≤ 38 := by omega
        go_enter Try.func44, Try.ntmps44
        go_wp2_with (go_at_call 54; refine (byte_any _ _).mono ?_; rintro e w' ⟨rfl, rfl⟩; rw [H2.out])
        go_ret
        exact ⟨ret_b (by rw [decide_eq_false (fun h : opP (k, m) => h3 h.2.2)]; first | done | (simp; done) | (simp; omega)), World.grownBy_alloc _ _ _⟩
  · go_enter Try.func44, Try.ntmps44
    go_wp2_with fail
    go_ret
    exact ⟨ret_b (decide_eq_false (fun h : opP (k, m) => by have h3 := h.1; dsimp only at h3; omega)).symm, World.grownBy_alloc _ _ _⟩

def OkRel (w : World) (l : List Pk) (v i : Value) (wr : World) : Prop :=
  ∃ j : Nat, j ≤ l.length ∧ i = .int .i64 j ∧ v = .int .i64 (szO (l.take j) : Nat) ∧ w.grownBy wr none ∧ ∀ o ∈ l.take j, opP o
def FdRel (w : World) (l : List Pk) (k : Int) (i : Value) (wr : World) : Prop :=
  ∃ j : Nat, j ≤ l.length ∧ i = .int .i64 j ∧ w.grownBy wr none ∧ ∀ o ∈ l.take j, o.1 ≠ k
def findF (k : Int) : List Pk → List UInt8 × Bool
  | [] => ([], false)
  | o :: l => if o.1 = k then (o.2, true) else findF k l
theorem findF_skip (k : Int) : ∀ (l m : List Pk), (∀ o ∈ l, o.1 ≠ k) → findF k (l ++ m) = findF k m
  | [], m, _ => rfl
  | o :: l, m, h => by
    rw [List.cons_append, findF, if_neg (h o (List.mem_cons_self ..))]
    exact findF_skip k l m (fun x hx => h x (List.mem_cons_of_mem _ hx))
theorem findF_here {k : Int} {l : List Pk} {j : Nat} (h : j < l.length) (ha : ∀ o ∈ l.take j, o.1 ≠ k) (he : (l[j]).1 = k) : findF k l = ((l[j]).2, true) := by
  have : findF k (l.take j ++ l.drop j) = ((l[j]).2, true) := by
    rw [findF_skip k _ _ ha, List.drop_eq_getElem_cons h, findF, if_pos he]
  rwa [List.take_append_drop] at this
theorem findF_none {k : Int} {l : List Pk} (ha : ∀ o ∈ l, o.1 ≠ k) : findF k l = ([], false) := by
  have := findF_skip k l [] ha
  rwa [List.append_nil] at this
def oofF (l : List Pk) (k : Int) : List UInt8 × Bool := if opsOk l = true then findF k l else ([], false)
def OofPost (w : World) (v : List UInt8 × Bool) (e : Ending) (w' : World) : Prop := e = .returned (.tuple #[.string ⟨v.1.toArray⟩, .bool v.2]) ∧ w.grownBy w' none

set_option maxRecDepth 100000 in
set_option maxHeartbeats 1000000 in
theorem ops_impl (a : Option Addr) (c : Nat) (l : List Pk) (w : World) (h : PkAt w a l) (hl0 : (l.length : Int) ≤ 9223372036854775807) (hm : ∀ x ∈ l, (x.2.length : Int) ≤ 9223372036854775807) : Calls Try.prog 24 #[.slice a l.length c] w fun e w' => e = .returned (.bool (opsOk l)) ∧ w.grownBy w' none := by
  have H := Lib.hid (And.intro h hm)
  clear h hm
  by_cases hl : 20 < (l.length : Int)
  · go_enter Try.func24, Try.ntmps24
    go_wp2_with fail
    go_ret
    exact ⟨ret_b (ops_no (fun h => by have := h.1; omega)).symm, World.grownBy.refl _ _⟩
  · go_enter Try.func24, Try.ntmps24
    go_wp2_with fail
    go_loopw [3, 11] (fun v i wr => OkRel w l v i wr) (fun _ i _ => l.length - (intOf i).toNat)
    case atStart => exact ⟨0, Nat.zero_le _, rfl, rfl, World.grownBy.refl _ _, by simp⟩
    case round =>
      obtain ⟨j, hj, rfl, rfl, hg, hall⟩ := hrel
      have HS := Lib.hid (And.intro hg hall)
      have hb1 := szO_bd _ hall
      rw [List.length_take] at hb1
      clear hg hall
      by_cases hlt : j < l.length
      · rcases (H.out.1.kept HS.out.1) with h0 | ⟨b, off, rfl, hb, hc⟩
        · rw [h0] at hlt
          simp at hlt
        · obtain ⟨c0, c1⟩ := hc j hlt
          clear hc
          have hm1 := H.out.2 _ (List.getElem_mem hlt)
          have HN := Lib.hid (szO_next l j hlt)
          have HX := Lib.hid (fun hx => all_next (P := opP) l j hlt HS.out.2 hx)
          have HY := Lib.hid (show ¬ opP l[j] → ¬ opsP l from fun hn hp => hn (hp.2.1 _ (List.getElem_mem hlt)))
          generalize l[j] = o at *
          obtain ⟨k, m⟩ := o
          have hlt' : (j : Int) < (l.length : Int) := by omega
          dsimp only at c0 c1 hm1
          generalize szO (l.take j) = q at *
          by_cases hp : opP (k, m)
          · have hml : m.length ≤ 38 := hp.2.2
            have HO := Lib.hid (HX.out hp)
            have HP := Lib.hid (decide_eq_true hp)
            have hw1 : IntKind.i64.wrap (2 + (m.length : Int)) = 2 + (m.length : Int) := IntWalk.i64_in _ (by omega)
            have hw2 : IntKind.i64.wrap ((q : Int) + (2 + (m.length : Int))) = (q : Int) + (2 + (m.length : Int)) := IntWalk.i64_in _ (by omega)
            have HQ := Lib.hid (show (q : Int) + (2 + (m.length : Int)) = ((szO (l.take (j + 1)) : Nat) : Int) by rw [HN.out]; simp)
            clear hp
            go_wp2_with fail
            refine (opok_any _ _ _ hm1).mono ?_
            rintro e w8 ⟨rfl, hg⟩
            rw [HP.out]
            have x0 := hg.cell (a := ⟨wr.heap.size, 0, none⟩) (v := .int .i64 k) (by go_simp) (by simp)
            have x1 := hg.cell (a := ⟨wr.heap.size, 1, none⟩) (v := .string ⟨m.toArray⟩) (by go_simp) (by simp)
            have H8 := Lib.hid (grownBy_trans HS.out.1 (grownBy_trans (World.grownBy_alloc _ _ _) hg))
            clear hg
            go_wp2_with fail
            go_roundw
            case rel => exact ⟨j + 1, hlt, by go_num, by rw [← HQ.out]; first | done | rfl | go_num, H8.out, HO.out⟩
            case measure => first | (simp [intOf]; done) | (simp [intOf]; omega)
          · have HO := Lib.hid (HY.out hp)
            have HP := Lib.hid (decide_eq_false hp)
            clear hp
            go_wp2_with fail
            refine (opok_any _ _ _ hm1).mono ?_
            rintro e w8 ⟨rfl, hg⟩
            rw [HP.out]
            have H8 := Lib.hid (grownBy_trans HS.out.1 (grownBy_trans (World.grownBy_alloc _ _ _) hg))
            clear hg
            go_wp2_with fail
            go_ret
            exact ⟨ret_b (ops_no HO.out).symm, H8.out⟩
      · obtain rfl : j = l.length := by omega
        have HA := Lib.hid (show ∀ o ∈ l, opP o by have := HS.out.2; rwa [List.take_length] at this)
        rw [List.take_length] at hb1 ⊢
        have HZ := Lib.hid (show opsOk l = decide (szO l ≤ 40) by
          by_cases hz : szO l ≤ 40
          · rw [ops_yes ⟨by omega, HA.out, hz⟩, decide_eq_true hz]
          · rw [ops_no (fun h => hz h.2.2), decide_eq_false hz])
        generalize szO l = q at *
        go_wp2_with fail
        go_ret
        exact ⟨ret_b (by rw [HZ.out, Bool.eq_iff_iff]; first | done | (simp; done) | (simp; omega)), HS.out.1⟩

set_option maxRecDepth 100000 in
set_option maxHeartbeats 1000000 in
theorem ops_spec (a : Option Addr) (c : Nat) (l : List Pk) (w : World) (h : PkAt w a l) (hl0 : l.length ≤ 1048576) (hm : ∀ x ∈ l, (x.2.length : Int) ≤ 9223372036854775807) : Calls Try.prog 25 #[.slice a l.length c] w fun e w' => e = .returned (.bool (opsOk l)) ∧ w.grownBy w' none := by
  have H := Lib.hid (And.intro h hm)
  clear h hm
  go_enter Try.func25, Try.ntmps25
  go_wp2_with fail
  go_loopw [3, 4] (fun v i wr => OkRel w l v i wr) (fun _ i _ => l.length - (intOf i).toNat)
  case atStart => exact ⟨0, Nat.zero_le _, rfl, rfl, World.grownBy.refl _ _, by simp⟩
  case round =>
    obtain ⟨j, hj, rfl, rfl, hg, hall⟩ := hrel
    have HS := Lib.hid (And.intro hg hall)
    have hb1 := szO_bd _ hall
    rw [List.length_take] at hb1
    clear hg hall
    by_cases hlt : j < l.length
    · rcases (H.out.1.kept HS.out.1) with h0 | ⟨b, off, rfl, hb, hc⟩
      · rw [h0] at hlt
        simp at hlt
      · obtain ⟨c0, c1⟩ := hc j hlt
        clear hc
        have hm1 := H.out.2 _ (List.getElem_mem hlt)
        have HN := Lib.hid (szO_next l j hlt)
        have HX := Lib.hid (fun hx => all_next (P := opP) l j hlt HS.out.2 hx)
        have HY := Lib.hid (show ¬ opP l[j] → ¬ opsP l from fun hn hp => hn (hp.2.1 _ (List.getElem_mem hlt)))
        generalize l[j] = o at *
        obtain ⟨k, m⟩ := o
        have hlt' : (j : Int) < (l.length : Int) := by omega
        have hj0 : (0 : Int) ≤ (j : Int) := by omega
        dsimp only at c0 c1 hm1
        generalize szO (l.take j) = q at *
        cases hk : inB k 2 255
        · have HK := Lib.hid hk
          have HO := Lib.hid (HY.out (fun h => in_not hk ⟨h.1, h.2.1⟩))
          clear hk
          go_wp2_with (go_at_call 45; refine (in_any _ _ _ _).mono ?_; rintro e w' ⟨rfl, rfl⟩; rw [HK.out])
          go_ret
          exact ⟨ret_b (ops_no HO.out).symm, HS.out.1⟩
        · have HK := Lib.hid hk
          have hk2 := in_of hk
          clear hk
          by_cases hml : (38 : Int) < (m.length : Int)
          · have HO := Lib.hid (HY.out (fun h => by have := h.2.2; dsimp only at this; omega))
            go_wp2_with (go_at_call 45; refine (in_any _ _ _ _).mono ?_; rintro e w' ⟨rfl, rfl⟩; rw [HK.out])
            go_ret
            exact ⟨ret_b (ops_no HO.out).symm, HS.out.1⟩
          · have HO := Lib.hid (HX.out ⟨hk2.1, hk2.2, by dsimp only; omega⟩)
            have hw1 : IntKind.i64.wrap ((q : Int) + 2) = (q : Int) + 2 := IntWalk.i64_in _ (by omega)
            have hw2 : IntKind.i64.wrap ((q : Int) + 2 + (m.length : Int)) = (q : Int) + 2 + (m.length : Int) := IntWalk.i64_in _ (by omega)
            have HQ := Lib.hid (show (q : Int) + 2 + (m.length : Int) = ((szO (l.take (j + 1)) : Nat) : Int) by rw [HN.out]; first | done | (simp; done) | (simp; omega))
            go_wp2_with (go_at_call 45; refine (in_any _ _ _ _).mono ?_; rintro e w' ⟨rfl, rfl⟩; rw [HK.out])
            go_roundw
            case rel => exact ⟨j + 1, hlt, by go_num, by rw [← HQ.out]; first | done | rfl | go_num, HS.out.1, HO.out⟩
            case measure => first | (simp [intOf]; done) | (simp [intOf]; omega)
    · obtain rfl : j = l.length := by omega
      have HA := Lib.hid (show ∀ o ∈ l, opP o by have := HS.out.2; rwa [List.take_length] at this)
      rw [List.take_length] at hb1 ⊢
      have HZ := Lib.hid (show opsOk l = (decide (szO l ≤ 40) && decide (l.length ≤ 20)) by
        by_cases hz : szO l ≤ 40
        · by_cases hy : l.length ≤ 20
          · rw [ops_yes ⟨hy, HA.out, hz⟩, decide_eq_true hz, decide_eq_true hy]; rfl
          · rw [ops_no (fun h => hy h.1), decide_eq_true hz, decide_eq_false hy]; rfl
        · rw [ops_no (fun h => hz h.2.2), decide_eq_false hz]; rfl)
      generalize szO l = q at *
      go_wp2_with fail
      all_goals
        go_ret
        exact ⟨ret_b (by rw [HZ.out, Bool.eq_iff_iff]; first | done | (simp; done) | (simp; omega)), HS.out.1⟩

set_option maxRecDepth 100000 in
set_option maxHeartbeats 1000000 in
theorem oof_impl (a : Option Addr) (c : Nat) (l : List Pk) (k : Int) (w : World) (h : PkAt w a l) (hl0 : l.length ≤ 1048576) (hm : ∀ x ∈ l, (x.2.length : Int) ≤ 9223372036854775807) : Calls Try.prog 20 #[.slice a l.length c, .int .i64 k] w (OofPost w (oofF l k)) := by
  have H := Lib.hid (And.intro h hm)
  clear h hm
  cases hok : opsOk l
  · have HK := Lib.hid hok
    have HV := Lib.hid (show oofF l k = ([], false) by rw [oofF, hok]; rfl)
    clear hok
    go_enter Try.func20, Try.ntmps20
    go_wp2_with fail
    refine (ops_impl _ _ _ _ H.out.1 (by omega) H.out.2).mono ?_
    rintro e w1 ⟨rfl, hg⟩
    rw [HK.out]
    have HG := Lib.hid hg
    clear hg
    go_wp2_with fail
    go_ret2
    exact ⟨by rw [HV.out]; rfl, HG.out⟩
  · have HK := Lib.hid hok
    have HV := Lib.hid (show oofF l k = findF k l by rw [oofF, hok]; rfl)
    clear hok
    go_enter Try.func20, Try.ntmps20
    go_wp2_with fail
    refine (ops_impl _ _ _ _ H.out.1 (by omega) H.out.2).mono ?_
    rintro e w1 ⟨rfl, hg⟩
    rw [HK.out]
    have HG := Lib.hid hg
    clear hg
    go_wp2_with fail
    go_loopw [13] (fun i wr => FdRel w l k i wr) (fun i _ => l.length - (intOf i).toNat)
    case atStart => exact ⟨0, Nat.zero_le _, rfl, HG.out, by simp⟩
    case round =>
      obtain ⟨j, hj, rfl, hg, hall⟩ := hrel
      have HS := Lib.hid (And.intro hg hall)
      clear hg hall
      by_cases hlt : j < l.length
      · rcases (H.out.1.kept HS.out.1) with h0 | ⟨b, off, rfl, hb, hc⟩
        · rw [h0] at hlt
          simp at hlt
        · obtain ⟨c0, c1⟩ := hc j hlt
          clear hc
          have HE := Lib.hid (fun he => findF_here (k := k) hlt HS.out.2 he)
          have HX := Lib.hid (fun hx => all_next (P := fun o : Pk => o.1 ≠ k) l j hlt HS.out.2 hx)
          generalize l[j] = o at *
          obtain ⟨q, m⟩ := o
          have hlt' : (j : Int) < (l.length : Int) := by omega
          have hj0 : (0 : Int) ≤ (j : Int) := by omega
          dsimp only at c0 c1
          by_cases hq : q = k
          · have HF := Lib.hid (HE.out hq)
            subst hq
            go_wp2_with fail
            go_ret2
            exact ⟨by rw [HV.out, HF.out]; rfl, grownBy_trans HS.out.1 (World.grownBy_alloc _ _ _)⟩
          · have HO := Lib.hid (HX.out hq)
            have hq2 : (q == k) = false := beq_false_of_ne hq
            clear hq
            go_wp2_with fail
            go_roundw
            case rel => exact ⟨j + 1, hlt, by go_num, grownBy_trans HS.out.1 (World.grownBy_alloc _ _ _), HO.out⟩
            case measure => first | (simp [intOf]; done) | (simp [intOf]; omega)
      · obtain rfl : j = l.length := by omega
        have HA := Lib.hid (show findF k l = ([], false) from findF_none (by have := HS.out.2; rwa [List.take_length] at this))
        go_wp2_with fail
        go_ret2
        exact ⟨by rw [HV.out, HA.out]; rfl, HS.out.1⟩

set_option maxRecDepth 100000 in
set_option maxHeartbeats 1000000 in
theorem oof_spec (a : Option Addr) (c : Nat) (l : List Pk) (k : Int) (w : World) (h : PkAt w a l) (hl0 : l.length ≤ 1048576) (hm : ∀ x ∈ l, (x.2.length : Int) ≤ 9223372036854775807) : Calls Try.prog 21 #[.slice a l.length c, .int .i64 k] w (OofPost w (oofF l k)) := by
  have H := Lib.hid (And.intro h hm)
  clear h hm
  cases hok : opsOk l
  · have HK := Lib.hid hok
    have HV := Lib.hid (show oofF l k = ([], false) by rw [oofF, hok]; rfl)
    clear hok
    go_enter Try.func21, Try.ntmps21
    go_wp2_with fail
    refine (ops_spec _ _ _ _ H.out.1 (by omega) H.out.2).mono ?_
    rintro e w1 ⟨rfl, hg⟩
    rw [HK.out]
    have HG := Lib.hid hg
    clear hg
    go_wp2_with fail
    go_ret2
    exact ⟨by rw [HV.out]; rfl, HG.out⟩
  · have HK := Lib.hid hok
    have HV := Lib.hid (show oofF l k = findF k l by rw [oofF, hok]; rfl)
    clear hok
    go_enter Try.func21, Try.ntmps21
    go_wp2_with fail
    refine (ops_spec _ _ _ _ H.out.1 (by omega) H.out.2).mono ?_
    rintro e w1 ⟨rfl, hg⟩
    rw [HK.out]
    have HG := Lib.hid hg
    clear hg
    go_wp2_with fail
    go_loopw [6] (fun i wr => FdRel w l k i wr) (fun i _ => l.length - (intOf i).toNat)
    case atStart => exact ⟨0, Nat.zero_le _, rfl, HG.out, by simp⟩
    case round =>
      obtain ⟨j, hj, rfl, hg, hall⟩ := hrel
      have HS := Lib.hid (And.intro hg hall)
      clear hg hall
      by_cases hlt : j < l.length
      · rcases (H.out.1.kept HS.out.1) with h0 | ⟨b, off, rfl, hb, hc⟩
        · rw [h0] at hlt
          simp at hlt
        · obtain ⟨c0, c1⟩ := hc j hlt
          clear hc
          have HE := Lib.hid (fun he => findF_here (k := k) hlt HS.out.2 he)
          have HX := Lib.hid (fun hx => all_next (P := fun o : Pk => o.1 ≠ k) l j hlt HS.out.2 hx)
          generalize l[j] = o at *
          obtain ⟨q, m⟩ := o
          have hlt' : (j : Int) < (l.length : Int) := by omega
          have hj0 : (0 : Int) ≤ (j : Int) := by omega
          dsimp only at c0 c1
          by_cases hq : q = k
          · have HF := Lib.hid (HE.out hq)
            subst hq
            go_wp2_with fail
            go_ret2
            exact ⟨by rw [HV.out, HF.out]; rfl, HS.out.1⟩
          · have HO := Lib.hid (HX.out hq)
            have hq2 : (q == k) = false := beq_false_of_ne hq
            clear hq
            go_wp2_with fail
            go_roundw
            case rel => exact ⟨j + 1, hlt, by go_num, HS.out.1, HO.out⟩
            case measure => first | (simp [intOf]; done) | (simp [intOf]; omega)
      · obtain rfl : j = l.length := by omega
        have HA := Lib.hid (show findF k l = ([], false) from findF_none (by have := HS.out.2; rwa [List.take_length] at this))
        go_wp2_with fail
        go_ret2
        exact ⟨by rw [HV.out, HA.out]; rfl, HS.out.1⟩

end Go.Proofs.Ytefpnbmjcailgaa
