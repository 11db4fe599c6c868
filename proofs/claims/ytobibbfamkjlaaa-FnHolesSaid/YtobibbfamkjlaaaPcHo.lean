/- The holes between pieces: the program's and the model's. -/
import Derived.Test.YtobibbfamkjlaaaPcKn
import Derived.Test.YtobibbfamkjlaaaRg7
namespace Go.Proofs.Ytobibbfamkjlaaa
open Go.RowKit

theorem pair_new (w : World) (x y : Value) (T : TypeId) (b : Nat) (hb : b = w.heap.size) : ∀ j u, [x, y][j]? = some u → (w.alloc (.cells #[x, y] T)).cell? ((⟨b, 0, none⟩ : Addr).add j) = some u := by
  subst hb
  intro j u hj
  match j, hj with
  | 0, hj => simp at hj; subst hj; simp [Addr.add]
  | 1, hj => simp at hj; subst hj; simp [Addr.add]
theorem grow_own {w a b : World} {C : Nat} {e : TypeId} {v : Value} {m s : Nat} {ys : List Value} (h : w.grownBy a none) (k : a.grownBy b v.ownBlock) (ho : a.ownsRow C e s v m ys) (hC : w.heap.size ≤ C) : w.grownBy b none := by
  cases hv : v.ownBlock with
  | none => rw [hv] at k; exact grownBy_trans h k
  | some g =>
    rw [hv] at k
    exact grownBy_new h k (Nat.le_trans hC (ho.lt g hv).1)
theorem own_kept {w w' : World} {B : Nat} {e : TypeId} {v : Value} {n s : Nat} {xs : List Value} (h : w.ownsRow B e s v n xs) (hg : w.grownBy w' none) : w'.ownsRow B e s v n xs := h.kept hg (by cases v.ownBlock <;> simp)
def hole (a b : Int) : List Rg := if a < b then [(a, b)] else []
def holesF : List Pk → Int → Int → List Rg
  | [], a, t => hole a t
  | p :: l, a, t => hole a (min p.1 t) ++ holesF l (p.1 + (p.2.length : Int)) t
noncomputable def holesL (l : List Pk) (t : Int) : List Rg := if pcsOk l = true ∧ 0 ≤ t ∧ t ≤ 20000 then holesF l 0 t else []
def HolePost (w : World) (B : Nat) (v : Value) (hs : List Rg) (a b : Int) (e : Ending) (w' : World) : Prop :=
  ∃ v', e = .returned v' ∧ w'.ownsRow B 35 2 v' (hs ++ hole a b).length (rgsV (hs ++ hole a b)) ∧ w.grownBy w' v.ownBlock
theorem rgsV_snoc (hs : List Rg) (a b : Int) : rgsV (hs ++ [(a, b)]) = rgsV hs ++ [.int .i64 a, .int .i64 b] := by simp [rgsV, rgV]
theorem hole_len (a b : Int) : (hole a b).length ≤ 1 := by unfold hole; split <;> simp

set_option maxRecDepth 100000 in
set_option maxHeartbeats 2000000 in
theorem hole_any (B : Nat) (v : Value) (hs : List Rg) (a b : Int) (w : World) (ho : w.ownsRow B 35 2 v hs.length (rgsV hs)) (hB : B ≤ w.heap.size) (hl : hs.length ≤ 1000) :
    Calls Try.prog 30 #[v, .int .i64 a, .int .i64 b] w (HolePost w B v hs a b) := by
  obtain ⟨i0, hi, hz0, hz1, hz2⟩ := info_of infoRg
  have HO := Lib.hid ho
  clear ho
  by_cases hab : a < b
  · have hab' : ¬ b ≤ a := by omega
    have HE := Lib.hid (show hs ++ hole a b = hs ++ [(a, b)] by rw [hole, if_pos hab])
    go_enter Try.func30, Try.ntmps30
    go_wp2_with (at_builtin; refine wpList_append_own _ rfl _ _ 27 rfl B 35 i0 _ 2 16 Try.underlying27 hi hz0 hz1 hz2 rfl (by decide) _ _ _ rfl (HO.out.alloc _) ⟨w.heap.size, 0, none⟩ 1 1 [.int .i64 a, .int .i64 b] rfl rfl ?c1 ?c2 ?c3 ?c4 ?c5 ?_)
    try (case c1 => exact pair_new w _ _ _ _ rfl)
    case c2 => simp [Value.oneCell']
    case c3 => unfold maxLen; omega
    case c4 => omega
    case c5 => first | (simp; omega) | omega
    intro v' wz hown1 hg1 _
    have HW := Lib.hid (And.intro hown1 hg1)
    clear hown1 hg1
    go_wp2_with fail
    go_ret
    refine ⟨v', rfl, ?_, grownBy_trans (World.grownBy_alloc _ _ _) HW.out.2⟩
    rw [HE.out, rgsV_snoc, List.length_append, List.length_singleton]
    exact HW.out.1
  · have hab' : b ≤ a := by omega
    have HE := Lib.hid (show hs ++ hole a b = hs by rw [hole, if_neg hab]; simp)
    go_enter Try.func30, Try.ntmps30
    go_wp2_with fail
    go_ret
    refine ⟨v, rfl, ?_, World.grownBy.refl _ _⟩
    rw [HE.out]
    exact HO.out

def HoPost (w : World) (l : List Pk) (t : Int) (e : Ending) (w' : World) : Prop :=
  ∃ v, e = .returned v ∧ w.grownBy w' none ∧ w'.ownsRow w.heap.size 35 2 v (holesL l t).length (rgsV (holesL l t))
def HoRel (w : World) (l : List Pk) (t : Int) (hv a i : Value) (wr : World) : Prop :=
  ∃ (j : Nat) (at' : Int) (hs : List Rg), j ≤ l.length ∧ i = .int .i64 j ∧ a = .int .i64 at' ∧ w.grownBy wr none ∧ wr.ownsRow w.heap.size 35 2 hv hs.length (rgsV hs) ∧ hs ++ holesF (l.drop j) at' t = holesF l 0 t ∧ hs.length ≤ j

set_option maxRecDepth 100000 in
set_option maxHeartbeats 4000000 in
theorem holes_impl (a : Option Addr) (c : Nat) (l : List Pk) (t : Int) (w : World) (h : PkAt w a l) : Calls Try.prog 8 #[.slice a l.length c, .int .i64 t] w (HoPost w l t) := by
  have H := Lib.hid h
  clear h
  cases hok : pcsOk l
  · have HE := Lib.hid (show holesL l t = [] by simp [holesL, hok])
    go_enter Try.func8, Try.ntmps8
    go_wp2_with fail
    refine (ok_impl _ _ _ _ H.out).mono ?_
    rintro e w1 ⟨rfl, hg⟩
    rw [hok]
    have HG := Lib.hid hg
    clear hg
    go_wp2_with fail
    go_ret
    refine ⟨_, rfl, HG.out, ?_⟩
    rw [HE.out]
    exact World.ownsRow_nil _ _ _ _
  · by_cases ht0 : t < 0
    · have HE := Lib.hid (show holesL l t = [] by simp only [holesL]; rw [if_neg (by omega)])
      go_enter Try.func8, Try.ntmps8
      go_wp2_with fail
      refine (ok_impl _ _ _ _ H.out).mono ?_
      rintro e w1 ⟨rfl, hg⟩
      rw [hok]
      have HG := Lib.hid hg
      clear hg
      go_wp2_with fail
      go_ret
      refine ⟨_, rfl, HG.out, ?_⟩
      rw [HE.out]
      exact World.ownsRow_nil _ _ _ _
    · by_cases ht1 : 20000 < t
      · have HE := Lib.hid (show holesL l t = [] by simp only [holesL]; rw [if_neg (by omega)])
        go_enter Try.func8, Try.ntmps8
        go_wp2_with fail
        refine (ok_impl _ _ _ _ H.out).mono ?_
        rintro e w1 ⟨rfl, hg⟩
        rw [hok]
        have HG := Lib.hid hg
        clear hg
        go_wp2_with fail
        go_ret
        refine ⟨_, rfl, HG.out, ?_⟩
        rw [HE.out]
        exact World.ownsRow_nil _ _ _ _
      · have HE := Lib.hid (show holesL l t = holesF l 0 t by simp only [holesL]; rw [if_pos ⟨hok, by omega, by omega⟩])
        have HP := Lib.hid (pcs_of hok)
        have hl : l.length ≤ 60 := HP.out.1
        go_enter Try.func8, Try.ntmps8
        go_wp2_with fail
        refine (ok_impl _ _ _ _ H.out).mono ?_
        rintro e w1 ⟨rfl, hg⟩
        rw [hok]
        have HG := Lib.hid hg
        clear hg
        go_wp2_with fail
        go_loopw [5, 6, 22] (fun hv a i wr => HoRel w l t hv a i wr) (fun _ _ i _ => l.length - (intOf i).toNat)
        case atStart => exact ⟨0, 0, [], Nat.zero_le _, rfl, rfl, HG.out, World.ownsRow_nil _ _ _ _, rfl, Nat.zero_le _⟩
        case round =>
          obtain ⟨j, at', hs, hj, rfl, rfl, hg, hown, hf, hlen⟩ := hrel
          have HS := Lib.hid (And.intro hg (And.intro hown hf))
          clear hg hown hf
          by_cases hlt : j < l.length
          · rcases (H.out.kept HS.out.1) with h0 | ⟨b, off, rfl, hb, hc⟩
            · rw [h0] at hlt
              simp at hlt
            · obtain ⟨c0, c1⟩ := hc j hlt
              clear hc
              have hlt' : (j : Int) < (l.length : Int) := by omega
              have hpx := HP.out.2.1 _ (List.getElem_mem hlt)
              have HD := Lib.hid (List.drop_eq_getElem_cons hlt)
              generalize l[j] = x at *
              obtain ⟨p, m⟩ := x
              obtain ⟨p0, p1, p2, p3⟩ := hpx
              dsimp only at c0 c1 p0 p1 p2 p3
              have HF := HS.out.2.2
              rw [HD.out, holesF, ← List.append_assoc] at HF
              have HF := Lib.hid HF
              dsimp only at HF
              have HM := Lib.hid (show ∀ q, min p t = q → (hs ++ hole at' q) ++ holesF (List.drop (j + 1) l) (p + (m.length : Int)) t = holesF l 0 t from fun q hq => by rw [← hq]; exact HF.out)
              have HX := Lib.hid (show ∀ q, (hs ++ hole at' q).length ≤ j + 1 from fun q => by have := hole_len at' q; rw [List.length_append]; omega)
              by_cases hpt : t < p
              · have hq1 : t ≤ p := by omega
                have hq2 : ¬ p ≤ t := by omega
                have hq3 : ¬ p < t := by omega
                go_wp2_with fail
                refine (start_any _ _ _).mono ?_
                rintro e w8 ⟨rfl, hg⟩
                have c2 := hg.cell (a := ⟨wr.heap.size, 0, none⟩) (v := .int .i64 p) (by go_simp) (by simp)
                have c3 := hg.cell (a := ⟨wr.heap.size, 1, none⟩) (v := .string ⟨m.toArray⟩) (by go_simp) (by simp)
                have H8 := Lib.hid (And.intro (grownBy_trans (grownBy_trans HS.out.1 (World.grownBy_alloc _ _ _)) hg) (own_kept (HS.out.2.1.alloc _) hg))
                clear hg c0 c1
                go_wp2_with fail
                refine (hole_any _ _ _ _ _ _ H8.out.2 H8.out.1.size (by omega)).mono ?_
                rintro e w9 ⟨v9, rfl, hown, hgv⟩
                have d2 := hgv.cell c2 (fun e => by have := (HS.out.2.1.lt _ e.symm).2; simp at this)
                have d3 := hgv.cell c3 (fun e => by have := (HS.out.2.1.lt _ e.symm).2; simp at this)
                have H9 := Lib.hid (And.intro (grow_own H8.out.1 hgv H8.out.2 (Nat.le_refl _)) hown)
                clear hgv hown c2 c3
                go_wp2_with fail
                refine (end_any _ _ _ p0 (by omega) (by omega)).mono ?_
                rintro e w10 ⟨rfl, hg⟩
                have H10 := Lib.hid (And.intro (grownBy_trans H9.out.1 hg) (own_kept H9.out.2 hg))
                clear hg d2 d3
                go_wp2_with fail
                go_roundw
                case rel => exact ⟨j + 1, _, _, hlt, by go_num, rfl, H10.out.1, H10.out.2, HM.out t (by omega), HX.out t⟩
                case measure => simp [intOf]; omega
              · have hq1 : p ≤ t := by omega
                have hpt : ¬ t < p := by omega
                go_wp2_with fail
                refine (start_any _ _ _).mono ?_
                rintro e w8 ⟨rfl, hg⟩
                have c2 := hg.cell (a := ⟨wr.heap.size, 0, none⟩) (v := .int .i64 p) (by go_simp) (by simp)
                have c3 := hg.cell (a := ⟨wr.heap.size, 1, none⟩) (v := .string ⟨m.toArray⟩) (by go_simp) (by simp)
                have H8 := Lib.hid (And.intro (grownBy_trans (grownBy_trans HS.out.1 (World.grownBy_alloc _ _ _)) hg) (own_kept (HS.out.2.1.alloc _) hg))
                clear hg c0 c1
                go_wp2_with fail
                refine (hole_any _ _ _ _ _ _ H8.out.2 H8.out.1.size (by omega)).mono ?_
                rintro e w9 ⟨v9, rfl, hown, hgv⟩
                have d2 := hgv.cell c2 (fun e => by have := (HS.out.2.1.lt _ e.symm).2; simp at this)
                have d3 := hgv.cell c3 (fun e => by have := (HS.out.2.1.lt _ e.symm).2; simp at this)
                have H9 := Lib.hid (And.intro (grow_own H8.out.1 hgv H8.out.2 (Nat.le_refl _)) hown)
                clear hgv hown c2 c3
                go_wp2_with fail
                refine (end_any _ _ _ p0 (by omega) (by omega)).mono ?_
                rintro e w10 ⟨rfl, hg⟩
                have H10 := Lib.hid (And.intro (grownBy_trans H9.out.1 hg) (own_kept H9.out.2 hg))
                clear hg d2 d3
                go_wp2_with fail
                go_roundw
                case rel => exact ⟨j + 1, _, _, hlt, by go_num, rfl, H10.out.1, H10.out.2, HM.out p (by omega), HX.out p⟩
                case measure => simp [intOf]; omega
          · obtain rfl : j = l.length := by omega
            have HF := Lib.hid HS.out.2.2
            rw [List.drop_length, holesF] at HF
            go_wp2_with fail
            refine (hole_any _ _ _ _ _ _ HS.out.2.1 HS.out.1.size (by omega)).mono ?_
            rintro e w9 ⟨v9, rfl, hown, hgv⟩
            have H9 := Lib.hid (And.intro (grow_own HS.out.1 hgv HS.out.2.1 (Nat.le_refl _)) hown)
            clear hgv hown
            go_wp2_with fail
            go_ret
            refine ⟨_, rfl, H9.out.1, ?_⟩
            rw [HE.out, ← HF.out]
            exact H9.out.2

end Go.Proofs.Ytobibbfamkjlaaa
