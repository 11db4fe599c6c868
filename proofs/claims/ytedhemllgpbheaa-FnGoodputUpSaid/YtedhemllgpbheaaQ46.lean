/- Ng -/
import Derived.Test.YtedhemllgpbheaaQ4
import Derived.Test.YtedhemllgpbheaaQ45
import Derived.BigRegion
namespace Go.Proofs.Ytedhemllgpbheaa
open Go.RowKit

/-- The greatest From of an ack. -/
def goodF : List No → Int → Int
  | [], m => m
  | x :: l, m => goodF l (if x.k = 2 ∧ m < x.f then x.f else m)
def good (l : List No) : Int := goodF l 0
/-- The places of what begins ahead of where one ahead of it ends. -/
def agF : List No → Nat → Int → List Int
  | [], _, _ => []
  | x :: l, i, e => if x.k = 1 then (if x.f < e then [(i : Int)] else []) ++ agF l (i + 1) (if e < x.f + x.n then x.f + x.n else e) else agF l (i + 1) e
def again (l : List No) : List Int := agF l 0 0
theorem ag_len : ∀ (l : List No) (i : Nat) (e : Int), (agF l i e).length ≤ l.length
  | [], _, _ => by simp [agF]
  | x :: l, i, e => by
    have h1 := ag_len l (i + 1) (if e < x.f + x.n then x.f + x.n else e)
    have h2 := ag_len l (i + 1) e
    unfold agF
    split
    · split <;> simp <;> omega
    · simp; omega
def mo (t : List Nt) : List No := t.map Nt.o
theorem mo_drop (t : List Nt) (j : Nat) (h : j < t.length) : mo (t.drop j) = (t[j]).o :: mo (t.drop (j + 1)) := by
  rw [List.drop_eq_getElem_cons h]
  rfl
theorem ok_at {t : List Nt} (h : notesP t) (j : Nat) (hj : j < t.length) : (t[j].o).ok := h.2 _ (List.getElem_mem hj)
theorem ok_bd {k f n : Int} {l : List Rg} (h : noteP k f n l) : 0 ≤ f ∧ f ≤ 20000 ∧ 0 ≤ n ∧ n ≤ 200 := by
  rcases h with h | h <;> omega

def GdRel (w : World) (t : List Nt) (m i : Value) (wr : World) : Prop :=
  ∃ (j : Nat) (q : Int), j ≤ t.length ∧ i = .int .i64 j ∧ m = .int .i64 q ∧ 0 ≤ q ∧ q ≤ 20000 ∧ goodF (mo (t.drop j)) q = good (mo t) ∧ w.grownBy wr none
theorem good_next {t : List Nt} {j : Nat} {q : Int} (hj : j < t.length) (h : goodF (mo (t.drop j)) q = good (mo t)) : goodF (mo (t.drop (j + 1))) (if (t[j]).k = 2 ∧ q < (t[j]).f then (t[j]).f else q) = good (mo t) := by
  rw [mo_drop t j hj] at h
  exact h
theorem good_end {t : List Nt} {q : Int} (h : goodF (mo (t.drop t.length)) q = good (mo t)) : q = good (mo t) := by
  rw [List.drop_length] at h
  exact h

def goodN (t : List Nt) : Int := if notesP t then good (mo t) else 0
set_option maxRecDepth 100000 in
set_option maxHeartbeats 2000000 in
theorem good_I (ao : Option Addr) (c : Nat) (t : List Nt) (w : World) (h : NtAt w ao t) : Calls Try.prog 6 #[.slice ao t.length c] w fun e w' => e = .returned (.int .i64 (goodN t)) ∧ w.grownBy w' none := by
  have H := Lib.hid h
  clear h
  by_cases hP : notesP t
  · have HP := Lib.hid hP
    have HY := Lib.hid (decide_eq_true hP)
    have h300 : t.length ≤ 300 := hP.1
    have HV := Lib.hid (show goodN t = good (mo t) from if_pos hP)
    clear hP
    go_enter Try.func6, Try.ntmps6
    go_wp2_with fail
    refine (notes_I _ _ _ _ H.out).mono ?_
    rintro e w1 ⟨rfl, hg⟩
    rw [HY.out]
    have H1 := Lib.hid hg
    clear hg
    go_wp2_with fail
    go_loopw [3, 11] (fun m i wr => GdRel w t m i wr) (fun _ i _ => t.length - (intOf i).toNat)
    case atStart => exact ⟨0, 0, Nat.zero_le _, rfl, rfl, by omega, by omega, rfl, H1.out⟩
    case round =>
      obtain ⟨j, q, hj, rfl, rfl, q0, q1, hgd, hg⟩ := hrel
      have HS := Lib.hid (And.intro hgd hg)
      clear hgd hg
      by_cases hlt : j < t.length
      · rcases (H.out.kept HS.out.2) with h0 | ⟨b, off, rfl, hb, hc⟩
        · rw [h0] at hlt
          simp at hlt
        · obtain ⟨⟨c0, c1, c2, c3⟩, hrg⟩ := hc j hlt
          have HN := Lib.hid (good_next hlt HS.out.1)
          have hok := ok_at HP.out j hlt
          clear hc hrg
          generalize t[j] = x at *
          obtain ⟨k, f, n, a, yc, l⟩ := x
          dsimp only at c0 c1 c2 c3
          have hbd : 0 ≤ f ∧ f ≤ 20000 ∧ 0 ≤ n ∧ n ≤ 200 := ok_bd hok
          have hf0 := hbd.1
          have hf1 := hbd.2.1
          clear hbd hok
          have hlt' : (j : Int) < (t.length : Int) := by omega
          by_cases hk : k = 2
          · subst hk
            by_cases hm : q < f
            · have HNx := Lib.hid (show goodF (mo (t.drop (j + 1))) f = good (mo t) from by have h := HN.out; rw [if_pos ⟨rfl, hm⟩] at h; exact h)
              clear HN
              have hm2 : ¬ f ≤ q := by omega
              have hm3 : ¬ f < q := by omega
              have hm4 : q ≤ f := by omega
              go_wp2_with fail
              go_roundw
              case rel => exact ⟨j + 1, f, hlt, by go_num, by first | rfl | simp [hm, hm2], hf0, hf1, HNx.out, grownBy_trans HS.out.2 (World.grownBy_alloc _ _ _)⟩
              case measure => simp [intOf]; omega
            · have HNx := Lib.hid (show goodF (mo (t.drop (j + 1))) q = good (mo t) from by have h := HN.out; rw [if_neg (fun h => hm h.2)] at h; exact h)
              clear HN
              have hm2 : f ≤ q := by omega
              go_wp2_with fail
              go_roundw
              case rel => exact ⟨j + 1, q, hlt, by go_num, by first | rfl | simp [hm, hm2], q0, q1, HNx.out, grownBy_trans HS.out.2 (World.grownBy_alloc _ _ _)⟩
              case measure => simp [intOf]; omega
          · have hk2 : (k == 2) = false := by simpa using hk
            have HK := Lib.hid hk
            clear hk
            go_wp2_with fail
            go_roundw
            case rel => exact ⟨j + 1, q, hlt, by go_num, rfl, q0, q1, by have h := HN.out; rw [if_neg (fun h => HK.out h.1)] at h; exact h, grownBy_trans HS.out.2 (World.grownBy_alloc _ _ _)⟩
            case measure => simp [intOf]; omega
      · obtain rfl : j = t.length := by omega
        have HE := Lib.hid (good_end HS.out.1)
        go_wp2_with fail
        go_ret
        exact ⟨by rw [HV.out, HE.out]; rfl, HS.out.2⟩
  · have HY := Lib.hid (decide_eq_false hP)
    have HV := Lib.hid (show goodN t = 0 from if_neg hP)
    clear hP
    go_enter Try.func6, Try.ntmps6
    go_wp2_with fail
    refine (notes_I _ _ _ _ H.out).mono ?_
    rintro e w1 ⟨rfl, hg⟩
    rw [HY.out]
    have H1 := Lib.hid hg
    clear hg
    go_wp2_with fail
    go_ret
    exact ⟨by rw [HV.out]; rfl, H1.out⟩

set_option maxRecDepth 100000 in
set_option maxHeartbeats 2000000 in
theorem good_S (ao : Option Addr) (c : Nat) (t : List Nt) (w : World) (h : NtAt w ao t) (ht : t.length ≤ 1048576) (hm : ∀ x ∈ t, x.l.length ≤ 1048576) : Calls Try.prog 8 #[.slice ao t.length c] w fun e w' => e = .returned (.int .i64 (goodN t)) ∧ w.grownBy w' none := by
  have H := Lib.hid (And.intro h hm)
  clear h hm
  by_cases hP : notesP t
  · have HP := Lib.hid hP
    have HY := Lib.hid (decide_eq_true hP)
    have h300 : t.length ≤ 300 := hP.1
    have HV := Lib.hid (show goodN t = good (mo t) from if_pos hP)
    clear hP
    go_enter Try.func8, Try.ntmps8
    go_wp2_with fail
    go_loopw [3, 4] (fun m i wr => GdRel w t m i wr) (fun _ i _ => t.length - (intOf i).toNat)
    case atStart => exact ⟨0, 0, Nat.zero_le _, rfl, rfl, by omega, by omega, rfl, World.grownBy.refl _ _⟩
    case round =>
      obtain ⟨j, q, hj, rfl, rfl, q0, q1, hgd, hg⟩ := hrel
      have HS := Lib.hid (And.intro hgd hg)
      clear hgd hg
      by_cases hlt : j < t.length
      · have hlt' : (j : Int) < (t.length : Int) := by omega
        have HA := Lib.hid (H.out.1.kept HS.out.2)
        go_wp2_with fail
        refine (notes_S _ _ _ _ HA.out ht H.out.2).mono ?_
        rintro e w1 ⟨rfl, hg⟩
        rw [HY.out]
        have H1 := Lib.hid (grownBy_trans HS.out.2 hg)
        clear hg
        rcases (H.out.1.kept H1.out) with h0 | ⟨b, off, rfl, hb, hc⟩
        · rw [h0] at hlt
          simp at hlt
        · obtain ⟨⟨c0, c1, c2, c3⟩, hrg⟩ := hc j hlt
          have HN := Lib.hid (good_next hlt HS.out.1)
          have hok := ok_at HP.out j hlt
          clear hc hrg
          generalize t[j] = x at *
          obtain ⟨k, f, n, a, yc, l⟩ := x
          dsimp only at c0 c1 c2 c3
          have hbd : 0 ≤ f ∧ f ≤ 20000 ∧ 0 ≤ n ∧ n ≤ 200 := ok_bd hok
          have hf0 := hbd.1
          have hf1 := hbd.2.1
          clear hbd hok
          by_cases hk : k = 2
          · subst hk
            by_cases hm : q < f
            · have HNx := Lib.hid (show goodF (mo (t.drop (j + 1))) f = good (mo t) from by have h := HN.out; rw [if_pos ⟨rfl, hm⟩] at h; exact h)
              clear HN
              have hm2 : ¬ f ≤ q := by omega
              go_wp2_with fail
              go_roundw
              case rel => exact ⟨j + 1, f, hlt, by go_num, by first | rfl | simp [hm, hm2], hf0, hf1, HNx.out, H1.out⟩
              case measure => simp [intOf]; omega
            · have HNx := Lib.hid (show goodF (mo (t.drop (j + 1))) q = good (mo t) from by have h := HN.out; rw [if_neg (fun h => hm h.2)] at h; exact h)
              clear HN
              have hm2 : f ≤ q := by omega
              go_wp2_with fail
              go_roundw
              case rel => exact ⟨j + 1, q, hlt, by go_num, by first | rfl | simp [hm, hm2], q0, q1, HNx.out, H1.out⟩
              case measure => simp [intOf]; omega
          · have hk2 : (k == 2) = false := by simpa using hk
            have HK := Lib.hid hk
            clear hk
            go_wp2_with fail
            go_roundw
            case rel => exact ⟨j + 1, q, hlt, by go_num, rfl, q0, q1, by have h := HN.out; rw [if_neg (fun h => HK.out h.1)] at h; exact h, H1.out⟩
            case measure => simp [intOf]; omega
      · obtain rfl : j = t.length := by omega
        have HE := Lib.hid (good_end HS.out.1)
        have HA := Lib.hid (H.out.1.kept HS.out.2)
        go_wp2_with fail
        refine (notes_S _ _ _ _ HA.out ht H.out.2).mono ?_
        rintro e w1 ⟨rfl, hg⟩
        rw [HY.out]
        have H1 := Lib.hid (grownBy_trans HS.out.2 hg)
        clear hg
        go_wp2_with fail
        go_ret
        exact ⟨by rw [HV.out, HE.out]; rfl, H1.out⟩
  · have HY := Lib.hid (decide_eq_false hP)
    have HV := Lib.hid (show goodN t = 0 from if_neg hP)
    clear hP
    go_enter Try.func8, Try.ntmps8
    go_wp2_with fail
    refine wp_loop_rounds 1 ?_
    rw [rounds_succ]
    go_wp2_with fail
    refine (notes_S _ _ _ _ H.out.1 ht H.out.2).mono ?_
    rintro e w1 ⟨rfl, hg⟩
    rw [HY.out]
    have H1 := Lib.hid hg
    clear hg
    go_wp2_with fail
    go_ret
    exact ⟨by rw [HV.out]; rfl, H1.out⟩

def againN (t : List Nt) : List Int := if notesP t then again (mo t) else []
theorem againN_len (t : List Nt) : (againN t).length ≤ 300 := by
  unfold againN
  split
  · rename_i h
    have h1 := ag_len (mo t) 0 0
    have h2 : (mo t).length ≤ 300 := by unfold mo; rw [List.length_map]; exact h.1
    unfold again
    omega
  · simp
def AgRel (w : World) (t : List Nt) (l m i : Value) (wr : World) : Prop :=
  ∃ (j : Nat) (q : Int) (hs : List Int), j ≤ t.length ∧ i = .int .i64 j ∧ m = .int .i64 q ∧ 0 ≤ q ∧ q ≤ 20200 ∧ hs ++ agF (mo (t.drop j)) j q = again (mo t) ∧ w.grownBy wr none ∧ wr.ownsRow w.heap.size 2 1 l hs.length (isV hs) ∧ hs.length ≤ j
theorem ag_next {t : List Nt} {j : Nat} {q : Int} {hs : List Int} (hj : j < t.length) (h : hs ++ agF (mo (t.drop j)) j q = again (mo t)) : (if (t[j]).k = 1 then hs ++ (if (t[j]).f < q then [(j : Int)] else []) else hs) ++ agF (mo (t.drop (j + 1))) (j + 1) (if (t[j]).k = 1 then (if q < (t[j]).f + (t[j]).n then (t[j]).f + (t[j]).n else q) else q) = again (mo t) := by
  rw [mo_drop t j hj, agF] at h
  rw [← h]
  by_cases hk : (t[j]).k = 1
  · rw [if_pos hk, if_pos hk]
    have hk2 : (t[j]).o.k = 1 := hk
    rw [if_pos hk2, List.append_assoc]
    rfl
  · rw [if_neg hk, if_neg hk]
    have hk2 : ¬ (t[j]).o.k = 1 := hk
    rw [if_neg hk2]
theorem ag_end {t : List Nt} {q : Int} {hs : List Int} (h : hs ++ agF (mo (t.drop t.length)) t.length q = again (mo t)) : hs = again (mo t) := by
  rw [List.drop_length] at h
  simpa [mo, agF] using h
def AgPost (w : World) (l : List Int) (e : Ending) (w' : World) : Prop :=
  ∃ a c, e = .returned (.slice a l.length c) ∧ w.grownBy w' none ∧ OwnI w' w.heap.size a c l
theorem infoI : (Try.prog.info? 2).map (fun i => (i.zero, i.size, i.bytes)) = some (some (.int .i64 0), 1, 8) := by kernel_rfl
theorem one_new (w : World) (x : Value) (T : TypeId) (b : Nat) (hb : b = w.heap.size) : ∀ j u, [x][j]? = some u → (w.alloc (.cells #[x] T)).cell? ((⟨b, 0, none⟩ : Addr).add j) = some u := by
  subst hb
  intro j u hj
  match j, hj with
  | 0, hj => simp at hj; subst hj; simp [Addr.add]
theorem row_grown {w a b : World} {e : TypeId} {v : Value} {m s : Nat} {ys : List Value} (ho : a.ownsRow w.heap.size e s v m ys) (h : w.grownBy a none) (k : a.grownBy b v.ownBlock) : w.grownBy b none := grown_row_none h k ho (Nat.le_refl _)

theorem nt_lt {w : World} {b off j : Nat} {t : List Nt} (h : NtAt w (some ⟨b, off, none⟩) t) (hj : j < t.length) : b < w.heap.size := by
  rcases h with h | ⟨b', off', e, hb, _⟩
  · rw [h] at hj
    simp at hj
  · simp only [Option.some.injEq, Addr.mk.injEq, and_true] at e
    omega
theorem row0 (w : World) : (w.alloc (.cells #[] 2)).ownsRow w.heap.size 2 1 (.slice (some ⟨w.heap.size, 0, none⟩) 0 0) 0 [] :=
  ⟨by simp, .inr ⟨w.heap.size, 0, #[], rfl, Nat.le_refl _, (by show (w.heap.push (Obj.cells #[] 2))[w.heap.size]? = _; simp), Nat.le_refl _, by unfold maxLen; omega, by simp, by simp⟩⟩

set_option maxRecDepth 100000 in
set_option maxHeartbeats 2000000 in
theorem ag_I (ao : Option Addr) (c : Nat) (t : List Nt) (w : World) (h : NtAt w ao t) : Calls Try.prog 7 #[.slice ao t.length c] w (AgPost w (againN t)) := by
  obtain ⟨i0, hi, hz0, hz1, hz2⟩ := info_of infoI
  have H := Lib.hid (And.intro h trivial)
  clear h
  by_cases hP : notesP t
  · have HP := Lib.hid hP
    have HY := Lib.hid (decide_eq_true hP)
    have h300 : t.length ≤ 300 := hP.1
    have HV := Lib.hid (show againN t = again (mo t) from if_pos hP)
    clear hP
    go_enter Try.func7, Try.ntmps7
    go_wp2_with fail
    refine (notes_I _ _ _ _ H.out.1).mono ?_
    rintro e w1 ⟨rfl, hg⟩
    rw [HY.out]
    have H1 := Lib.hid hg
    clear hg
    go_wp2_with fail
    go_loopw [3, 4, 12] (fun l m i wr => AgRel w t l m i wr) (fun _ _ i _ => t.length - (intOf i).toNat)
    case atStart => exact ⟨0, 0, [], Nat.zero_le _, rfl, rfl, by omega, by omega, rfl, H1.out, World.ownsRow_nil _ _ _ _, Nat.zero_le _⟩
    case round =>
      obtain ⟨j, q, hs, hj, rfl, rfl, q0, q1, hgd, hg, ho, hln⟩ := hrel
      obtain ⟨la, lc, rfl⟩ := own_slice ho
      have HS := Lib.hid (And.intro hgd (And.intro hg (And.intro ho trivial)))
      clear hgd hg ho
      by_cases hlt : j < t.length
      · rcases (H.out.1.kept HS.out.2.1) with h0 | ⟨b, off, rfl, hb, hc⟩
        · rw [h0] at hlt
          simp at hlt
        · obtain ⟨⟨c0, c1, c2, c3⟩, hrg⟩ := hc j hlt
          have HN := Lib.hid (ag_next hlt HS.out.1)
          have hok := ok_at HP.out j hlt
          clear hc hrg
          generalize t[j] = x at *
          obtain ⟨k, f, n, a, yc, l⟩ := x
          dsimp only at c0 c1 c2 c3
          have hbd : 0 ≤ f ∧ f ≤ 20000 ∧ 0 ≤ n ∧ n ≤ 200 := ok_bd hok
          have hf0 := hbd.1
          have hf1 := hbd.2.1
          have hn0 := hbd.2.2.1
          have hn1 := hbd.2.2.2
          clear hbd hok
          have hlt' : (j : Int) < (t.length : Int) := by omega
          have hj0 : (0 : Int) ≤ (j : Int) := by omega
          by_cases hk : k = 1
          · subst hk
            have hs1 : IntKind.i64.wrap (f + n) = f + n := IntWalk.i64_in _ (by omega)
            by_cases hf : f < q
            · have HNa := Lib.hid (show q < f + n → (hs ++ [(j : Int)]) ++ agF (mo (t.drop (j + 1))) (j + 1) (f + n) = again (mo t) from fun hm => by have h := HN.out; rw [if_pos rfl, if_pos rfl, if_pos hf, if_pos hm] at h; exact h)
              have HNb := Lib.hid (show ¬ q < f + n → (hs ++ [(j : Int)]) ++ agF (mo (t.drop (j + 1))) (j + 1) q = again (mo t) from fun hm => by have h := HN.out; rw [if_pos rfl, if_pos rfl, if_pos hf, if_neg hm] at h; exact h)
              clear HN
              go_wp2_with (at_builtin; refine wpList_append_own _ rfl _ _ 27 rfl w.heap.size 2 i0 _ 1 8 Try.underlying27 hi hz0 hz1 hz2 rfl (by decide) _ _ _ rfl ((HS.out.2.2.1.alloc _).alloc _) ⟨wr.heap.size + 1, 0, none⟩ 1 1 [.int .i64 (j : Int)] rfl rfl ?c1 ?c2 ?c3 ?c4 ?c5 ?_)
              try (case c1 => exact one_new _ _ _ _ rfl)
              case c2 => simp [Value.oneCell']
              case c3 => unfold maxLen; omega
              case c4 => omega
              case c5 => have := HS.out.2.1.size; simp; omega
              intro v' wz hown1 hg1 _
              have z1 : wz.cell? ⟨wr.heap.size, 1, none⟩ = some (.int .i64 f) := hg1.cell (by go_simp) (fun e => by have := HS.out.2.2.1.lt _ e.symm; simp at this)
              have z2 : wz.cell? ⟨wr.heap.size, 2, none⟩ = some (.int .i64 n) := hg1.cell (by go_simp) (fun e => by have := HS.out.2.2.1.lt _ e.symm; simp at this)
              have HW := Lib.hid (And.intro hown1 hg1)
              clear hown1 hg1
              by_cases hm : q < f + n
              · have HNx := Lib.hid (show (hs ++ [(j : Int)]) ++ agF (mo (t.drop (j + 1))) (j + 1) (f + n) = again (mo t) from HNa.out hm)
                clear HNa HNb
                have hm2 : ¬ f + n ≤ q := by omega
                go_wp2_with fail
                try (go_region)
                try go_wp2_with fail
                go_roundw
                case rel => exact ⟨j + 1, (f + n), (hs ++ [(j : Int)]), hlt, by go_num, by first | rfl | simp [hm], by omega, by omega, HNx.out, row_grown ((HS.out.2.2.1.alloc _).alloc _) (grownBy_trans HS.out.2.1 (grownBy_trans (World.grownBy_alloc _ _ _) (World.grownBy_alloc _ _ _))) HW.out.2, by rw [List.length_append, List.length_singleton, isV_snoc]; exact HW.out.1, by rw [List.length_append, List.length_singleton]; omega⟩
                case measure => simp [intOf]; omega
              · have HNx := Lib.hid (show (hs ++ [(j : Int)]) ++ agF (mo (t.drop (j + 1))) (j + 1) q = again (mo t) from HNb.out (by omega))
                clear HNa HNb
                have hm2 : f + n ≤ q := by omega
                go_wp2_with fail
                try (go_region)
                try go_wp2_with fail
                go_roundw
                case rel => exact ⟨j + 1, q, (hs ++ [(j : Int)]), hlt, by go_num, by first | rfl | simp [hm], q0, q1, HNx.out, row_grown ((HS.out.2.2.1.alloc _).alloc _) (grownBy_trans HS.out.2.1 (grownBy_trans (World.grownBy_alloc _ _ _) (World.grownBy_alloc _ _ _))) HW.out.2, by rw [List.length_append, List.length_singleton, isV_snoc]; exact HW.out.1, by rw [List.length_append, List.length_singleton]; omega⟩
                case measure => simp [intOf]; omega
            · by_cases hm : q < f + n
              · have HNx := Lib.hid (show hs ++ agF (mo (t.drop (j + 1))) (j + 1) (f + n) = again (mo t) from by have h := HN.out; rw [if_pos rfl, if_pos rfl, if_neg hf, if_pos hm] at h; rw [List.append_nil] at h; exact h)
                clear HN
                have hm2 : ¬ f + n ≤ q := by omega
                go_wp2_with fail
                try (go_region)
                try go_wp2_with fail
                go_roundw
                case rel => exact ⟨j + 1, (f + n), hs, hlt, by go_num, by first | rfl | simp [hm], by omega, by omega, HNx.out, grownBy_trans HS.out.2.1 (World.grownBy_alloc _ _ _), HS.out.2.2.1.alloc _, by omega⟩
                case measure => simp [intOf]; omega
              · have HNx := Lib.hid (show hs ++ agF (mo (t.drop (j + 1))) (j + 1) q = again (mo t) from by have h := HN.out; rw [if_pos rfl, if_pos rfl, if_neg hf, if_neg hm] at h; rw [List.append_nil] at h; exact h)
                clear HN
                have hm2 : f + n ≤ q := by omega
                go_wp2_with fail
                try (go_region)
                try go_wp2_with fail
                go_roundw
                case rel => exact ⟨j + 1, q, hs, hlt, by go_num, by first | rfl | simp [hm], q0, q1, HNx.out, grownBy_trans HS.out.2.1 (World.grownBy_alloc _ _ _), HS.out.2.2.1.alloc _, by omega⟩
                case measure => simp [intOf]; omega
          · have hk2 : (k == 1) = false := by simpa using hk
            have HK := Lib.hid hk
            clear hk
            go_wp2_with fail
            go_roundw
            case rel => exact ⟨j + 1, q, hs, hlt, by go_num, rfl, q0, q1, by have h := HN.out; rw [if_neg HK.out, if_neg HK.out] at h; exact h, grownBy_trans HS.out.2.1 (World.grownBy_alloc _ _ _), HS.out.2.2.1.alloc _, by omega⟩
            case measure => simp [intOf]; omega
      · obtain rfl : j = t.length := by omega
        have HE := Lib.hid (ag_end HS.out.1)
        go_wp2_with fail
        go_ret
        exact ⟨la, lc, by rw [HV.out, ← HE.out]; rfl, HS.out.2.1, by rw [HV.out, ← HE.out]; exact HS.out.2.2.1⟩
  · have HY := Lib.hid (decide_eq_false hP)
    have HV := Lib.hid (show againN t = [] from if_neg hP)
    clear hP
    go_enter Try.func7, Try.ntmps7
    go_wp2_with fail
    refine (notes_I _ _ _ _ H.out.1).mono ?_
    rintro e w1 ⟨rfl, hg⟩
    rw [HY.out]
    have H1 := Lib.hid hg
    clear hg
    go_wp2_with fail
    go_ret
    exact ⟨none, 0, by rw [HV.out]; rfl, H1.out, by rw [HV.out]; exact World.ownsRow_nil _ _ _ _⟩

set_option maxRecDepth 100000 in
set_option maxHeartbeats 2000000 in
theorem ag_S (ao : Option Addr) (c : Nat) (t : List Nt) (w : World) (h : NtAt w ao t) (ht : t.length ≤ 1048576) (hm : ∀ x ∈ t, x.l.length ≤ 1048576) : Calls Try.prog 10 #[.slice ao t.length c] w (AgPost w (againN t)) := by
  obtain ⟨i0, hi, hz0, hz1, hz2⟩ := info_of infoI
  have H := Lib.hid (And.intro h hm)
  clear h hm
  by_cases hP : notesP t
  · have HP := Lib.hid hP
    have HY := Lib.hid (decide_eq_true hP)
    have h300 : t.length ≤ 300 := hP.1
    have HV := Lib.hid (show againN t = again (mo t) from if_pos hP)
    clear hP
    go_enter Try.func10, Try.ntmps10
    go_wp2_with fail
    have HA := Lib.hid (And.intro (H.out.1.kept (World.grownBy_alloc w (.cells #[] 2) none)) (row0 w))
    refine (notes_S _ _ _ _ HA.out.1 ht H.out.2).mono ?_
    rintro e w1 ⟨rfl, hg⟩
    rw [HY.out]
    have H1 := Lib.hid (And.intro (grownBy_trans (World.grownBy_alloc w (.cells #[] 2) none) hg) (own_kept HA.out.2 hg))
    clear hg
    go_wp2_with fail
    go_loopw [3, 4, 5] (fun l m i wr => AgRel w t l m i wr) (fun _ _ i _ => t.length - (intOf i).toNat)
    case atStart => exact ⟨0, 0, [], Nat.zero_le _, rfl, rfl, by omega, by omega, rfl, H1.out.1, H1.out.2, Nat.zero_le _⟩
    case round =>
      obtain ⟨j, q, hs, hj, rfl, rfl, q0, q1, hgd, hg, ho, hln⟩ := hrel
      obtain ⟨la, lc, rfl⟩ := own_slice ho
      have HS := Lib.hid (And.intro hgd (And.intro hg (And.intro ho trivial)))
      clear hgd hg ho
      by_cases hlt : j < t.length
      · rcases (H.out.1.kept HS.out.2.1) with h0 | ⟨b, off, rfl, hb, hc⟩
        · rw [h0] at hlt
          simp at hlt
        · obtain ⟨⟨c0, c1, c2, c3⟩, hrg⟩ := hc j hlt
          have HN := Lib.hid (ag_next hlt HS.out.1)
          have hok := ok_at HP.out j hlt
          clear hc hrg
          generalize t[j] = x at *
          obtain ⟨k, f, n, a, yc, l⟩ := x
          dsimp only at c0 c1 c2 c3
          have hbd : 0 ≤ f ∧ f ≤ 20000 ∧ 0 ≤ n ∧ n ≤ 200 := ok_bd hok
          have hf0 := hbd.1
          have hf1 := hbd.2.1
          have hn0 := hbd.2.2.1
          have hn1 := hbd.2.2.2
          clear hbd hok
          have HNE := Lib.hid (fun (V : World) (hg : (wr.alloc (.cells #[.int .i64 (j : Int)] 2)).grownBy V (Value.ownBlock (.slice la hs.length lc))) => And.intro (hg.cell ((World.grownBy_alloc wr (.cells #[.int .i64 (j : Int)] 2) none).cell c1 (by simp)) (fun e => by have h1 := HS.out.2.2.1.lt _ e.symm; have h2 := nt_lt H.out.1 hlt; simp at h1; omega)) (hg.cell ((World.grownBy_alloc wr (.cells #[.int .i64 (j : Int)] 2) none).cell c2 (by simp)) (fun e => by have h1 := HS.out.2.2.1.lt _ e.symm; have h2 := nt_lt H.out.1 hlt; simp at h1; omega)))
          have hlt' : (j : Int) < (t.length : Int) := by omega
          have hj0 : (0 : Int) ≤ (j : Int) := by omega
          by_cases hk : k = 1
          · subst hk
            have hs1 : IntKind.i64.wrap (f + n) = f + n := IntWalk.i64_in _ (by omega)
            by_cases hf : f < q
            · have HNa := Lib.hid (show q < f + n → (hs ++ [(j : Int)]) ++ agF (mo (t.drop (j + 1))) (j + 1) (f + n) = again (mo t) from fun hm => by have h := HN.out; rw [if_pos rfl, if_pos rfl, if_pos hf, if_pos hm] at h; exact h)
              have HNb := Lib.hid (show ¬ q < f + n → (hs ++ [(j : Int)]) ++ agF (mo (t.drop (j + 1))) (j + 1) q = again (mo t) from fun hm => by have h := HN.out; rw [if_pos rfl, if_pos rfl, if_pos hf, if_neg hm] at h; exact h)
              clear HN
              go_wp2_with (at_builtin; refine wpList_append_own _ rfl _ _ 27 rfl w.heap.size 2 i0 _ 1 8 Try.underlying27 hi hz0 hz1 hz2 rfl (by decide) _ _ _ rfl (HS.out.2.2.1.alloc _) ⟨wr.heap.size, 0, none⟩ 1 1 [.int .i64 (j : Int)] rfl rfl ?c1 ?c2 ?c3 ?c4 ?c5 ?_)
              try (case c1 => exact one_new _ _ _ _ rfl)
              case c2 => simp [Value.oneCell']
              case c3 => unfold maxLen; omega
              case c4 => omega
              case c5 => have := HS.out.2.1.size; simp; omega
              intro v' wz hown1 hg1 _
              have z0 := HNE.out _ hg1
              have z1 := z0.1
              have z2 := z0.2
              clear z0
              have HW := Lib.hid (And.intro hown1 hg1)
              clear hown1 hg1
              by_cases hm : q < f + n
              · have HNx := Lib.hid (show (hs ++ [(j : Int)]) ++ agF (mo (t.drop (j + 1))) (j + 1) (f + n) = again (mo t) from HNa.out hm)
                clear HNa HNb
                have hm2 : ¬ f + n ≤ q := by omega
                go_wp2_with fail
                try (go_region)
                try go_wp2_with fail
                go_roundw
                case rel => exact ⟨j + 1, (f + n), (hs ++ [(j : Int)]), hlt, by go_num, by first | rfl | simp [hm], by omega, by omega, HNx.out, gD (row_grown (HS.out.2.2.1.alloc _) (grownBy_trans HS.out.2.1 (World.grownBy_alloc _ _ _)) HW.out.2) _, by rw [List.length_append, List.length_singleton, isV_snoc]; exact own_kept HW.out.1 (grownBy_drewN _), by rw [List.length_append, List.length_singleton]; omega⟩
                case measure => simp [intOf]; omega
              · have HNx := Lib.hid (show (hs ++ [(j : Int)]) ++ agF (mo (t.drop (j + 1))) (j + 1) q = again (mo t) from HNb.out (by omega))
                clear HNa HNb
                have hm2 : f + n ≤ q := by omega
                go_wp2_with fail
                try (go_region)
                try go_wp2_with fail
                go_roundw
                case rel => exact ⟨j + 1, q, (hs ++ [(j : Int)]), hlt, by go_num, by first | rfl | simp [hm], q0, q1, HNx.out, gD (row_grown (HS.out.2.2.1.alloc _) (grownBy_trans HS.out.2.1 (World.grownBy_alloc _ _ _)) HW.out.2) _, by rw [List.length_append, List.length_singleton, isV_snoc]; exact own_kept HW.out.1 (grownBy_drewN _), by rw [List.length_append, List.length_singleton]; omega⟩
                case measure => simp [intOf]; omega
            · by_cases hm : q < f + n
              · have HNx := Lib.hid (show hs ++ agF (mo (t.drop (j + 1))) (j + 1) (f + n) = again (mo t) from by have h := HN.out; rw [if_pos rfl, if_pos rfl, if_neg hf, if_pos hm] at h; rw [List.append_nil] at h; exact h)
                clear HN
                have hm2 : ¬ f + n ≤ q := by omega
                go_wp2_with fail
                try (go_region)
                try go_wp2_with fail
                go_roundw
                case rel => exact ⟨j + 1, (f + n), hs, hlt, by go_num, by first | rfl | simp [hm], by omega, by omega, HNx.out, gD HS.out.2.1 _, own_kept HS.out.2.2.1 (grownBy_drewN _), by omega⟩
                case measure => simp [intOf]; omega
              · have HNx := Lib.hid (show hs ++ agF (mo (t.drop (j + 1))) (j + 1) q = again (mo t) from by have h := HN.out; rw [if_pos rfl, if_pos rfl, if_neg hf, if_neg hm] at h; rw [List.append_nil] at h; exact h)
                clear HN
                have hm2 : f + n ≤ q := by omega
                go_wp2_with fail
                try (go_region)
                try go_wp2_with fail
                go_roundw
                case rel => exact ⟨j + 1, q, hs, hlt, by go_num, by first | rfl | simp [hm], q0, q1, HNx.out, gD HS.out.2.1 _, own_kept HS.out.2.2.1 (grownBy_drewN _), by omega⟩
                case measure => simp [intOf]; omega
          · have hk2 : (k == 1) = false := by simpa using hk
            have HK := Lib.hid hk
            clear hk
            go_wp2_with fail
            go_roundw
            case rel => exact ⟨j + 1, q, hs, hlt, by go_num, rfl, q0, q1, by have h := HN.out; rw [if_neg HK.out, if_neg HK.out] at h; exact h, HS.out.2.1, HS.out.2.2.1, by omega⟩
            case measure => simp [intOf]; omega
      · obtain rfl : j = t.length := by omega
        have HE := Lib.hid (ag_end HS.out.1)
        go_wp2_with fail
        go_ret
        exact ⟨la, lc, by rw [HV.out, ← HE.out]; rfl, HS.out.2.1, by rw [HV.out, ← HE.out]; exact HS.out.2.2.1⟩
  · have HY := Lib.hid (decide_eq_false hP)
    have HV := Lib.hid (show againN t = [] from if_neg hP)
    clear hP
    go_enter Try.func10, Try.ntmps10
    go_wp2_with fail
    have HA := Lib.hid (And.intro (H.out.1.kept (World.grownBy_alloc w (.cells #[] 2) none)) (row0 w))
    refine (notes_S _ _ _ _ HA.out.1 ht H.out.2).mono ?_
    rintro e w1 ⟨rfl, hg⟩
    rw [HY.out]
    have H1 := Lib.hid (And.intro (grownBy_trans (World.grownBy_alloc w (.cells #[] 2) none) hg) (own_kept HA.out.2 hg))
    clear hg
    go_wp2_with fail
    go_ret
    exact ⟨some ⟨w.heap.size, 0, none⟩, 0, by rw [HV.out]; rfl, H1.out.1, by rw [HV.out]; exact H1.out.2⟩

end Go.Proofs.Ytedhemllgpbheaa

