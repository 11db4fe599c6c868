/- One range more in a row of ranges: the model's. -/
import Derived.Test.YtedgfiagefhahaaRw
namespace Go.Proofs.Ytedgfiagefhahaa
open Go.RowKit

theorem drop_at (l : List Rg) (j : Nat) (h : j < l.length) : l.drop j = l[j] :: l.drop (j + 1) := List.drop_eq_getElem_cons h
theorem RgAt.cells {w : World} {b off : Nat} {l : List Rg} (h : RgAt w (some ⟨b, off, none⟩) l) (i : Nat) (hi : i < l.length) : w.cell? ⟨b, off + i * 2, none⟩ = some (.int .i64 (l[i]).1) ∧ w.cell? ⟨b, off + i * 2 + 1, none⟩ = some (.int .i64 (l[i]).2) := by
  rcases h with h | ⟨b', off', ha, _, hc⟩
  · subst h; simp at hi
  · cases ha; exact hc i hi
def Pt1Rel (w : World) (l : List Rg) (x : Rg) (i : Value) (wr : World) : Prop :=
  ∃ (j : Nat) (y : Rg), j ≤ l.length ∧ i = .int .i64 (j : Int) ∧ w.grownBy wr none ∧ Two wr w.heap.size (.int .i64 y.1) (.int .i64 y.2) ∧ wr.ownsRow (w.heap.size + 1) 40 2 (.slice (some ⟨w.heap.size + 1, 0, none⟩) 0 0) 0 (rgsV []) ∧ absorb (l.drop j) y = absorb l x
def Pt2Rel (w : World) (l : List Rg) (X : Rg) (v d i : Value) (wr : World) : Prop :=
  ∃ (j : Nat) (hs : List Rg) (b : Bool), j ≤ l.length ∧ i = .int .i64 (j : Int) ∧ d = .bool b ∧ w.grownBy wr none ∧ Two wr w.heap.size (.int .i64 X.1) (.int .i64 X.2) ∧ wr.ownsRow (w.heap.size + 1) 40 2 v hs.length (rgsV hs) ∧ hs ++ emit (l.drop j) X b = emit l X false ∧ hs.length ≤ 2 * j ∧ w.heap.size + 1 ≤ wr.heap.size

set_option maxRecDepth 100000 in
set_option maxHeartbeats 16000000 in
theorem put_any (a : Option Addr) (c : Nat) (l : List Rg) (p m : Int) (w : World) (h : RgAt w a l) (hl : l.length ≤ 1000) :
    Calls Try.prog 42 #[.slice a l.length c, .agg #[.int .i64 p, .int .i64 m]] w (CcPost w (putR l (p, m))) := by
  obtain ⟨i0, hi, hz0, hz1, hz2⟩ := info_of infoRg
  have hT := two_new w (.int .i64 p) (.int .i64 m) 40
  have hG := World.grownBy_alloc w (.cells #[.int .i64 p, .int .i64 m] 40) none
  have hE : ((w.alloc (.cells #[.int .i64 p, .int .i64 m] 40)).alloc (.cells #[] 40)).ownsRow (w.heap.size + 1) 40 2 (.slice (some ⟨w.heap.size + 1, 0, none⟩) 0 0) 0 (rgsV []) := by
    have := row_empty (w.alloc (.cells #[.int .i64 p, .int .i64 m] 40)) 40 2 _ (Nat.le_refl _)
    rw [alloc_size] at this
    exact this
  have hA := World.grownBy_alloc (w.alloc (.cells #[.int .i64 p, .int .i64 m] 40)) (.cells #[] 40) none
  have H := Lib.hid (And.intro h (And.intro (grownBy_trans hG hA) (And.intro (hT.kept hA (by simp)) hE)))
  clear h hT hG hA hE
  go_enter Try.func42, Try.ntmps42
  go_wp2_with fail
  go_loopw [6] (fun i wr => Pt1Rel w l (p, m) i wr) (fun i _ => l.length - (intOf i).toNat)
  case atStart => exact ⟨0, (p, m), Nat.zero_le _, rfl, H.out.2.1, H.out.2.2.1, H.out.2.2.2, rfl⟩
  case round =>
    obtain ⟨j, y, hj, rfl, hg, ht, ho, hab⟩ := hrel
    have HS := Lib.hid (And.intro hg (And.intro ht (And.intro ho hab)))
    clear hg ht ho hab
    obtain ⟨r, s⟩ := y
    dsimp only at HS
    by_cases hlt : j < l.length
    · rcases (H.out.1.kept HS.out.1) with hn | ⟨b, off, rfl, hb, hc⟩
      · rw [hn] at hlt
        simp at hlt
      · obtain ⟨c0, c1⟩ := hc j hlt
        clear hc
        have hlt' : (j : Int) < (l.length : Int) := by omega
        have hj0 : (0 : Int) ≤ (j : Int) := by omega
        have HD := Lib.hid (drop_at l j hlt)
        generalize l[j] = z at *
        obtain ⟨f, t⟩ := z
        dsimp only at c0 c1
        obtain ⟨z0, z1, z2, z3⟩ := HS.out.2.1
        have hBs : w.heap.size < wr.heap.size := cell_in z0
        by_cases h1 : r ≤ t
        · have h1' : decide (r ≤ t) = true := decide_eq_true h1
          by_cases h2 : f ≤ s
          · have h2' : decide (f ≤ s) = true := decide_eq_true h2
            have HX := Lib.hid (show absorb (l.drop (j + 1)) (min f r, max t s) = absorb l (p, m) by rw [← HS.out.2.2.2, HD.out, absorb, if_pos ⟨h1, h2⟩]; rfl)
            have hmin : (r ≤ f ∧ ¬ f < r ∧ Hid (min f r = r)) ∨ (¬ r ≤ f ∧ f ≤ r ∧ Hid (min f r = f)) := by
              by_cases h : r ≤ f
              · exact .inl ⟨h, by omega, Lib.hid (by omega)⟩
              · exact .inr ⟨h, by omega, Lib.hid (by omega)⟩
            have hmax : (t ≤ s ∧ ¬ s < t ∧ Hid (max t s = s)) ∨ (¬ t ≤ s ∧ s ≤ t ∧ Hid (max t s = t)) := by
              by_cases h : t ≤ s
              · exact .inl ⟨h, by omega, Lib.hid (by omega)⟩
              · exact .inr ⟨h, by omega, Lib.hid (by omega)⟩
            rcases hmin with ⟨hn1, hn2, HN⟩ | ⟨hn1, hn2, HN⟩
            all_goals
              rcases hmax with ⟨hm1, hm2, HMX⟩ | ⟨hm1, hm2, HMX⟩
              all_goals
                rw [HN.out, HMX.out] at HX
                go_wp2_with fail
                go_quiet (fail)
                have HQ := Lib.hid (And.intro (grownBy_trans HS.out.1 (grownBy_drewN (r := none) nq)) (And.intro (HS.out.2.1.kept (grownBy_drewN (r := none) nq) (by simp)) (own_kept HS.out.2.2.1 (grownBy_drewN (r := none) nq))))
                have d0 := (grownBy_drewN (a := wr) (r := none) nq).cell c0 (by simp)
                have d1 := (grownBy_drewN (a := wr) (r := none) nq).cell c1 (by simp)
                clear c0 c1 z0 z1 z2 z3 hBs
                generalize wr.drewN nq = wq at *
                obtain ⟨z0, z1, z2, z3⟩ := HQ.out.2.1
                have hBs : w.heap.size < wq.heap.size := cell_in z0
                have HW := Lib.hid (fun (u v : Value) => And.intro (grownBy_trans (grownBy_new HQ.out.1 (grownBy_trans (grownBy_set wq w.heap.size 0 u) (grownBy_set (wq.setCell ⟨w.heap.size, 0, none⟩ u) w.heap.size 1 v)) (Nat.le_refl _)) grownBy_drew) (And.intro ((two_set (x' := u) (y' := v) HQ.out.2.1).kept (grownBy_drew (r := none)) (by simp)) (own_kept (World.ownsRow.kept (World.ownsRow.kept HQ.out.2.2 (grownBy_set wq w.heap.size 0 u) (.inr (by simp [Value.ownBlock]))) (grownBy_set (wq.setCell ⟨w.heap.size, 0, none⟩ u) w.heap.size 1 v) (.inr (by simp [Value.ownBlock]))) grownBy_drew)))
                go_wp2_with fail
                go_still_tail 17, (by kernel_rfl)
                go_wp2_with fail
                go_roundw
                case rel => exact ⟨j + 1, (_, _), hlt, by go_num, (HW.out _ _).1, (HW.out _ _).2.1, (HW.out _ _).2.2, HX.out⟩
                case measure => simp [intOf]; omega
          · have h2' : decide (f ≤ s) = false := decide_eq_false h2
            have HX := Lib.hid (show absorb (l.drop (j + 1)) (r, s) = absorb l (p, m) by rw [← HS.out.2.2.2, HD.out, absorb, if_neg (by show ¬ (r ≤ t ∧ f ≤ s); omega)])
            go_wp2_with fail
            go_quiet (fail)
            go_wp2_with fail
            go_roundw
            case rel => exact ⟨j + 1, (r, s), hlt, by go_num, grownBy_trans HS.out.1 (grownBy_drewN _), HS.out.2.1.kept (grownBy_drewN (r := none) _) (by simp), own_kept HS.out.2.2.1 (grownBy_drewN _), HX.out⟩
            case measure => simp [intOf]; omega
        · have h1' : decide (r ≤ t) = false := decide_eq_false h1
          have HX := Lib.hid (show absorb (l.drop (j + 1)) (r, s) = absorb l (p, m) by rw [← HS.out.2.2.2, HD.out, absorb, if_neg (by show ¬ (r ≤ t ∧ f ≤ s); omega)])
          go_wp2_with fail
          go_quiet (fail)
          go_wp2_with fail
          go_roundw
          case rel => exact ⟨j + 1, (r, s), hlt, by go_num, grownBy_trans HS.out.1 (grownBy_drewN _), HS.out.2.1.kept (grownBy_drewN (r := none) _) (by simp), own_kept HS.out.2.2.1 (grownBy_drewN _), HX.out⟩
          case measure => simp [intOf]; omega
    · obtain rfl : j = l.length := by omega
      have HXE := Lib.hid (show absorb l (p, m) = (r, s) by rw [← HS.out.2.2.2, List.drop_length]; rfl)
      have H2 := Lib.hid (And.intro HS.out.1 (And.intro HS.out.2.1 HS.out.2.2.1))
      have hsz2 : w.heap.size < wr.heap.size := cell_in HS.out.2.1.a
      have HSZ := Lib.hid hsz2
      clear HS hsz2
      go_wp2_with fail
      go_loopw [5, 7, 8] (fun v d i w5 => Pt2Rel w l (r, s) v d i w5) (fun _ _ i _ => l.length - (intOf i).toNat)
      case atStart => exact ⟨0, [], false, Nat.zero_le _, rfl, rfl, H2.out.1, H2.out.2.1, H2.out.2.2, rfl, Nat.le_refl _, HSZ.out⟩
      case round =>
        clear H2 HSZ hj hlt
        obtain ⟨j, hs, bb, hj, rfl, rfl, hg, ht, ho, he, hlen, hsz⟩ := hrel
        have HS := Lib.hid (And.intro hg (And.intro ht (And.intro ho he)))
        clear hg ht ho he
        dsimp only at HS
        by_cases hlt : j < l.length
        · rcases (H.out.1.kept HS.out.1) with hn | ⟨b, off, rfl, hb, hc⟩
          · rw [hn] at hlt
            simp at hlt
          · clear hc hb
            have HCL := Lib.hid (fun (w' : World) (hg : w.grownBy w' none) => (H.out.1.kept hg).cells j hlt)
            have hlt' : (j : Int) < (l.length : Int) := by omega
            have hj0 : (0 : Int) ≤ (j : Int) := by omega
            have HD := Lib.hid (drop_at l j hlt)
            generalize l[j] = z at *
            obtain ⟨f, t⟩ := z
            dsimp only at HCL
            obtain ⟨c0, c1⟩ := HCL.out _ HS.out.1
            obtain ⟨z0, z1, z2, z3⟩ := HS.out.2.1
            by_cases h1 : r ≤ f
            · have h1' : decide (r ≤ f) = true := decide_eq_true h1
              by_cases h2 : t ≤ s
              · have h2' : decide (t ≤ s) = true := decide_eq_true h2
                have HX := Lib.hid (show hs ++ emit (l.drop (j + 1)) (r, s) bb = emit l (r, s) false by rw [← HS.out.2.2.2, HD.out, emit, if_pos ⟨h1, h2⟩])
                go_wp2_with fail
                go_quiet (fail)
                have HQ := Lib.hid (And.intro (grownBy_trans HS.out.1 (grownBy_drewN (r := none) nq)) (And.intro (HS.out.2.1.kept (grownBy_drewN (r := none) nq) (by simp)) (own_kept HS.out.2.2.1 (grownBy_drewN (r := none) nq))))
                clear c0 c1 z0 z1 z2 z3
                generalize wr.drewN nq = wrq at *
                obtain ⟨z0, z1, z2, z3⟩ := HQ.out.2.1
                obtain ⟨c0, c1⟩ := HCL.out _ HQ.out.1
                go_wp2_with fail
                go_roundw
                case rel => exact ⟨j + 1, hs, bb, hlt, by go_num, rfl, HQ.out.1, HQ.out.2.1, HQ.out.2.2, HX.out, by omega, by have := cell_in HQ.out.2.1.a; simp at this; omega⟩
                case measure => simp [intOf]; omega
              · have h2' : decide (t ≤ s) = false := decide_eq_false h2
                cases bb
                · by_cases h3 : r < f
                  · have h3' : decide (r < f) = true := decide_eq_true h3
                    have HX := Lib.hid (show (hs ++ [(r, s)] ++ [(f, t)]) ++ emit (l.drop (j + 1)) (r, s) true = emit l (r, s) false by rw [← HS.out.2.2.2, HD.out, emit, if_neg (by show ¬ (r ≤ f ∧ t ≤ s); omega), if_pos ⟨rfl, h3⟩]; simp)
                    go_wp2_with fail
                    go_quiet (fail)
                    have HQ := Lib.hid (And.intro (grownBy_trans HS.out.1 (grownBy_drewN (r := none) nq)) (And.intro (HS.out.2.1.kept (grownBy_drewN (r := none) nq) (by simp)) (own_kept HS.out.2.2.1 (grownBy_drewN (r := none) nq))))
                    clear c0 c1 z0 z1 z2 z3
                    generalize wr.drewN nq = wrq at *
                    obtain ⟨z0, z1, z2, z3⟩ := HQ.out.2.1
                    obtain ⟨c0, c1⟩ := HCL.out _ HQ.out.1
                    go_wp2_with fail
                    go_quiet (fail)
                    have HR := Lib.hid (And.intro (grownBy_trans HQ.out.1 (grownBy_drewN (r := none) nq)) (And.intro (HQ.out.2.1.kept (grownBy_drewN (r := none) nq) (by simp)) (own_kept HQ.out.2.2 (grownBy_drewN (r := none) nq))))
                    clear c0 c1 z0 z1 z2 z3
                    generalize wrq.drewN nq = wrqq at *
                    obtain ⟨z0, z1, z2, z3⟩ := HR.out.2.1
                    obtain ⟨c0, c1⟩ := HCL.out _ HR.out.1
                    go_wp2_with (at_builtin; refine wpList_append_own _ rfl _ _ 24 rfl (w.heap.size + 1) 40 i0 _ 2 16 Try.underlying24 hi hz0 hz1 hz2 rfl (by decide) _ _ _ rfl (HR.out.2.2.alloc _) ⟨wrqq.heap.size, 0, none⟩ 1 1 [.int .i64 r, .int .i64 s] rfl rfl ?b1 ?b2 ?b3 ?b4 ?b5 ?_)
                    try (case b1 => exact pair_new wrqq _ _ _ _ rfl)
                    case b2 => simp [Value.oneCell']
                    case b3 => unfold maxLen; first | omega | (simp; omega)
                    case b4 => first | omega | (simp; omega)
                    case b5 => have hx5 : w.heap.size < wrqq.heap.size := cell_in HR.out.2.1.a; first | omega | (simp; omega)
                    intro v' wz hown1 hg1 _
                    have wzH := Lib.hid (And.intro (grow_own (grownBy_trans HR.out.1 (World.grownBy_alloc wrqq (.cells #[.int .i64 r, .int .i64 s] 40) none)) hg1 (HR.out.2.2.alloc (.cells #[.int .i64 r, .int .i64 s] 40)) (Nat.le_succ _)) (And.intro ((HR.out.2.1.kept (World.grownBy_alloc wrqq (.cells #[.int .i64 r, .int .i64 s] 40) none) (by simp)).kept hg1 (fun e => by have := (HR.out.2.2.lt _ e.symm).1; omega)) (show wz.ownsRow (w.heap.size + 1) 40 2 v' (hs ++ [(r, s)]).length (rgsV (hs ++ [(r, s)])) by rw [rgsV_snoc, List.length_append, List.length_singleton]; first | exact hown1 | (rw [List.length_append, List.length_singleton]; exact hown1))))
                    clear hown1 hg1
                    clear c0 c1 z0 z1 z2 z3
                    obtain ⟨z0, z1, z2, z3⟩ := wzH.out.2.1
                    obtain ⟨c0, c1⟩ := HCL.out _ wzH.out.1
                    go_wp2_with (at_builtin; refine wpList_append_own _ rfl _ _ 24 rfl (w.heap.size + 1) 40 i0 _ 2 16 Try.underlying24 hi hz0 hz1 hz2 rfl (by decide) _ _ _ rfl (wzH.out.2.2.alloc _) ⟨wz.heap.size, 0, none⟩ 1 1 [.int .i64 f, .int .i64 t] rfl rfl ?c1 ?c2 ?c3 ?c4 ?c5 ?_)
                    try (case c1 => exact pair_new wz _ _ _ _ rfl)
                    case c2 => simp [Value.oneCell']
                    case c3 => unfold maxLen; first | omega | (simp; omega)
                    case c4 => first | omega | (simp; omega)
                    case c5 => have hx5 : w.heap.size < wz.heap.size := cell_in wzH.out.2.1.a; first | omega | (simp; omega)
                    intro v' wy hown1 hg1 _
                    have wyH := Lib.hid (And.intro (grow_own (grownBy_trans wzH.out.1 (World.grownBy_alloc wz (.cells #[.int .i64 f, .int .i64 t] 40) none)) hg1 (wzH.out.2.2.alloc (.cells #[.int .i64 f, .int .i64 t] 40)) (Nat.le_succ _)) (And.intro ((wzH.out.2.1.kept (World.grownBy_alloc wz (.cells #[.int .i64 f, .int .i64 t] 40) none) (by simp)).kept hg1 (fun e => by have := (wzH.out.2.2.lt _ e.symm).1; omega)) (show wy.ownsRow (w.heap.size + 1) 40 2 v' ((hs ++ [(r, s)]) ++ [(f, t)]).length (rgsV ((hs ++ [(r, s)]) ++ [(f, t)])) by rw [rgsV_snoc, List.length_append, List.length_singleton]; first | exact hown1 | (rw [List.length_append, List.length_singleton]; exact hown1))))
                    clear hown1 hg1
                    go_wp2_with fail
                    go_roundw
                    case rel => exact ⟨j + 1, hs ++ [(r, s)] ++ [(f, t)], true, hlt, by go_num, rfl, wyH.out.1, wyH.out.2.1, wyH.out.2.2, HX.out, by simp only [List.length_append, List.length_singleton]; omega, by have := cell_in wyH.out.2.1.a; simp at this; omega⟩
                    case measure => simp [intOf]; omega
                  · have h3' : decide (r < f) = false := decide_eq_false h3
                    have HX := Lib.hid (show (hs ++ [(f, t)]) ++ emit (l.drop (j + 1)) (r, s) false = emit l (r, s) false by rw [← HS.out.2.2.2, HD.out, emit, if_neg (by show ¬ (r ≤ f ∧ t ≤ s); omega), if_neg (by simp; try omega)]; simp)
                    go_wp2_with fail
                    go_quiet (fail)
                    have HQ := Lib.hid (And.intro (grownBy_trans HS.out.1 (grownBy_drewN (r := none) nq)) (And.intro (HS.out.2.1.kept (grownBy_drewN (r := none) nq) (by simp)) (own_kept HS.out.2.2.1 (grownBy_drewN (r := none) nq))))
                    clear c0 c1 z0 z1 z2 z3
                    generalize wr.drewN nq = wrq at *
                    obtain ⟨z0, z1, z2, z3⟩ := HQ.out.2.1
                    obtain ⟨c0, c1⟩ := HCL.out _ HQ.out.1
                    go_wp2_with fail
                    go_quiet (fail)
                    have HR := Lib.hid (And.intro (grownBy_trans HQ.out.1 (grownBy_drewN (r := none) nq)) (And.intro (HQ.out.2.1.kept (grownBy_drewN (r := none) nq) (by simp)) (own_kept HQ.out.2.2 (grownBy_drewN (r := none) nq))))
                    clear c0 c1 z0 z1 z2 z3
                    generalize wrq.drewN nq = wrqq at *
                    obtain ⟨z0, z1, z2, z3⟩ := HR.out.2.1
                    obtain ⟨c0, c1⟩ := HCL.out _ HR.out.1
                    go_wp2_with (at_builtin; refine wpList_append_own _ rfl _ _ 24 rfl (w.heap.size + 1) 40 i0 _ 2 16 Try.underlying24 hi hz0 hz1 hz2 rfl (by decide) _ _ _ rfl (HR.out.2.2.alloc _) ⟨wrqq.heap.size, 0, none⟩ 1 1 [.int .i64 f, .int .i64 t] rfl rfl ?d1 ?d2 ?d3 ?d4 ?d5 ?_)
                    try (case d1 => exact pair_new wrqq _ _ _ _ rfl)
                    case d2 => simp [Value.oneCell']
                    case d3 => unfold maxLen; first | omega | (simp; omega)
                    case d4 => first | omega | (simp; omega)
                    case d5 => have hx5 : w.heap.size < wrqq.heap.size := cell_in HR.out.2.1.a; first | omega | (simp; omega)
                    intro v' wz hown1 hg1 _
                    have wzH := Lib.hid (And.intro (grow_own (grownBy_trans HR.out.1 (World.grownBy_alloc wrqq (.cells #[.int .i64 f, .int .i64 t] 40) none)) hg1 (HR.out.2.2.alloc (.cells #[.int .i64 f, .int .i64 t] 40)) (Nat.le_succ _)) (And.intro ((HR.out.2.1.kept (World.grownBy_alloc wrqq (.cells #[.int .i64 f, .int .i64 t] 40) none) (by simp)).kept hg1 (fun e => by have := (HR.out.2.2.lt _ e.symm).1; omega)) (show wz.ownsRow (w.heap.size + 1) 40 2 v' (hs ++ [(f, t)]).length (rgsV (hs ++ [(f, t)])) by rw [rgsV_snoc, List.length_append, List.length_singleton]; first | exact hown1 | (rw [List.length_append, List.length_singleton]; exact hown1))))
                    clear hown1 hg1
                    go_wp2_with fail
                    go_roundw
                    case rel => exact ⟨j + 1, hs ++ [(f, t)], false, hlt, by go_num, rfl, wzH.out.1, wzH.out.2.1, wzH.out.2.2, HX.out, by simp only [List.length_append, List.length_singleton]; omega, by have := cell_in wzH.out.2.1.a; simp at this; omega⟩
                    case measure => simp [intOf]; omega
                · have HX := Lib.hid (show (hs ++ [(f, t)]) ++ emit (l.drop (j + 1)) (r, s) true = emit l (r, s) false by rw [← HS.out.2.2.2, HD.out, emit, if_neg (by show ¬ (r ≤ f ∧ t ≤ s); omega), if_neg (by simp; try omega)]; simp)
                  go_wp2_with fail
                  go_quiet (fail)
                  have HQ := Lib.hid (And.intro (grownBy_trans HS.out.1 (grownBy_drewN (r := none) nq)) (And.intro (HS.out.2.1.kept (grownBy_drewN (r := none) nq) (by simp)) (own_kept HS.out.2.2.1 (grownBy_drewN (r := none) nq))))
                  clear c0 c1 z0 z1 z2 z3
                  generalize wr.drewN nq = wrq at *
                  obtain ⟨z0, z1, z2, z3⟩ := HQ.out.2.1
                  obtain ⟨c0, c1⟩ := HCL.out _ HQ.out.1
                  go_wp2_with fail
                  go_quiet (fail)
                  have HR := Lib.hid (And.intro (grownBy_trans HQ.out.1 (grownBy_drewN (r := none) nq)) (And.intro (HQ.out.2.1.kept (grownBy_drewN (r := none) nq) (by simp)) (own_kept HQ.out.2.2 (grownBy_drewN (r := none) nq))))
                  clear c0 c1 z0 z1 z2 z3
                  generalize wrq.drewN nq = wrqq at *
                  obtain ⟨z0, z1, z2, z3⟩ := HR.out.2.1
                  obtain ⟨c0, c1⟩ := HCL.out _ HR.out.1
                  go_wp2_with (at_builtin; refine wpList_append_own _ rfl _ _ 24 rfl (w.heap.size + 1) 40 i0 _ 2 16 Try.underlying24 hi hz0 hz1 hz2 rfl (by decide) _ _ _ rfl (HR.out.2.2.alloc _) ⟨wrqq.heap.size, 0, none⟩ 1 1 [.int .i64 f, .int .i64 t] rfl rfl ?e1 ?e2 ?e3 ?e4 ?e5 ?_)
                  try (case e1 => exact pair_new wrqq _ _ _ _ rfl)
                  case e2 => simp [Value.oneCell']
                  case e3 => unfold maxLen; first | omega | (simp; omega)
                  case e4 => first | omega | (simp; omega)
                  case e5 => have hx5 : w.heap.size < wrqq.heap.size := cell_in HR.out.2.1.a; first | omega | (simp; omega)
                  intro v' wz hown1 hg1 _
                  have wzH := Lib.hid (And.intro (grow_own (grownBy_trans HR.out.1 (World.grownBy_alloc wrqq (.cells #[.int .i64 f, .int .i64 t] 40) none)) hg1 (HR.out.2.2.alloc (.cells #[.int .i64 f, .int .i64 t] 40)) (Nat.le_succ _)) (And.intro ((HR.out.2.1.kept (World.grownBy_alloc wrqq (.cells #[.int .i64 f, .int .i64 t] 40) none) (by simp)).kept hg1 (fun e => by have := (HR.out.2.2.lt _ e.symm).1; omega)) (show wz.ownsRow (w.heap.size + 1) 40 2 v' (hs ++ [(f, t)]).length (rgsV (hs ++ [(f, t)])) by rw [rgsV_snoc, List.length_append, List.length_singleton]; first | exact hown1 | (rw [List.length_append, List.length_singleton]; exact hown1))))
                  clear hown1 hg1
                  go_wp2_with fail
                  go_roundw
                  case rel => exact ⟨j + 1, hs ++ [(f, t)], true, hlt, by go_num, rfl, wzH.out.1, wzH.out.2.1, wzH.out.2.2, HX.out, by simp only [List.length_append, List.length_singleton]; omega, by have := cell_in wzH.out.2.1.a; simp at this; omega⟩
                  case measure => simp [intOf]; omega
                  
            · have h1' : decide (r ≤ f) = false := decide_eq_false h1
              cases bb
              · have h3 : ¬ r < f := by omega
                have h3' : decide (r < f) = false := decide_eq_false h3
                have HX := Lib.hid (show (hs ++ [(f, t)]) ++ emit (l.drop (j + 1)) (r, s) false = emit l (r, s) false by rw [← HS.out.2.2.2, HD.out, emit, if_neg (by show ¬ (r ≤ f ∧ t ≤ s); omega), if_neg (by simp; try omega)]; simp)
                go_wp2_with fail
                go_quiet (fail)
                have HQ := Lib.hid (And.intro (grownBy_trans HS.out.1 (grownBy_drewN (r := none) nq)) (And.intro (HS.out.2.1.kept (grownBy_drewN (r := none) nq) (by simp)) (own_kept HS.out.2.2.1 (grownBy_drewN (r := none) nq))))
                clear c0 c1 z0 z1 z2 z3
                generalize wr.drewN nq = wrq at *
                obtain ⟨z0, z1, z2, z3⟩ := HQ.out.2.1
                obtain ⟨c0, c1⟩ := HCL.out _ HQ.out.1
                go_wp2_with fail
                go_quiet (fail)
                have HR := Lib.hid (And.intro (grownBy_trans HQ.out.1 (grownBy_drewN (r := none) nq)) (And.intro (HQ.out.2.1.kept (grownBy_drewN (r := none) nq) (by simp)) (own_kept HQ.out.2.2 (grownBy_drewN (r := none) nq))))
                clear c0 c1 z0 z1 z2 z3
                generalize wrq.drewN nq = wrqq at *
                obtain ⟨z0, z1, z2, z3⟩ := HR.out.2.1
                obtain ⟨c0, c1⟩ := HCL.out _ HR.out.1
                go_wp2_with (at_builtin; refine wpList_append_own _ rfl _ _ 24 rfl (w.heap.size + 1) 40 i0 _ 2 16 Try.underlying24 hi hz0 hz1 hz2 rfl (by decide) _ _ _ rfl (HR.out.2.2.alloc _) ⟨wrqq.heap.size, 0, none⟩ 1 1 [.int .i64 f, .int .i64 t] rfl rfl ?f1 ?f2 ?f3 ?f4 ?f5 ?_)
                try (case f1 => exact pair_new wrqq _ _ _ _ rfl)
                case f2 => simp [Value.oneCell']
                case f3 => unfold maxLen; first | omega | (simp; omega)
                case f4 => first | omega | (simp; omega)
                case f5 => have hx5 : w.heap.size < wrqq.heap.size := cell_in HR.out.2.1.a; first | omega | (simp; omega)
                intro v' wz hown1 hg1 _
                have wzH := Lib.hid (And.intro (grow_own (grownBy_trans HR.out.1 (World.grownBy_alloc wrqq (.cells #[.int .i64 f, .int .i64 t] 40) none)) hg1 (HR.out.2.2.alloc (.cells #[.int .i64 f, .int .i64 t] 40)) (Nat.le_succ _)) (And.intro ((HR.out.2.1.kept (World.grownBy_alloc wrqq (.cells #[.int .i64 f, .int .i64 t] 40) none) (by simp)).kept hg1 (fun e => by have := (HR.out.2.2.lt _ e.symm).1; omega)) (show wz.ownsRow (w.heap.size + 1) 40 2 v' (hs ++ [(f, t)]).length (rgsV (hs ++ [(f, t)])) by rw [rgsV_snoc, List.length_append, List.length_singleton]; first | exact hown1 | (rw [List.length_append, List.length_singleton]; exact hown1))))
                clear hown1 hg1
                go_wp2_with fail
                go_roundw
                case rel => exact ⟨j + 1, hs ++ [(f, t)], false, hlt, by go_num, rfl, wzH.out.1, wzH.out.2.1, wzH.out.2.2, HX.out, by simp only [List.length_append, List.length_singleton]; omega, by have := cell_in wzH.out.2.1.a; simp at this; omega⟩
                case measure => simp [intOf]; omega
              · have HX := Lib.hid (show (hs ++ [(f, t)]) ++ emit (l.drop (j + 1)) (r, s) true = emit l (r, s) false by rw [← HS.out.2.2.2, HD.out, emit, if_neg (by show ¬ (r ≤ f ∧ t ≤ s); omega), if_neg (by simp; try omega)]; simp)
                go_wp2_with fail
                go_quiet (fail)
                have HQ := Lib.hid (And.intro (grownBy_trans HS.out.1 (grownBy_drewN (r := none) nq)) (And.intro (HS.out.2.1.kept (grownBy_drewN (r := none) nq) (by simp)) (own_kept HS.out.2.2.1 (grownBy_drewN (r := none) nq))))
                clear c0 c1 z0 z1 z2 z3
                generalize wr.drewN nq = wrq at *
                obtain ⟨z0, z1, z2, z3⟩ := HQ.out.2.1
                obtain ⟨c0, c1⟩ := HCL.out _ HQ.out.1
                go_wp2_with fail
                go_quiet (fail)
                have HR := Lib.hid (And.intro (grownBy_trans HQ.out.1 (grownBy_drewN (r := none) nq)) (And.intro (HQ.out.2.1.kept (grownBy_drewN (r := none) nq) (by simp)) (own_kept HQ.out.2.2 (grownBy_drewN (r := none) nq))))
                clear c0 c1 z0 z1 z2 z3
                generalize wrq.drewN nq = wrqq at *
                obtain ⟨z0, z1, z2, z3⟩ := HR.out.2.1
                obtain ⟨c0, c1⟩ := HCL.out _ HR.out.1
                go_wp2_with (at_builtin; refine wpList_append_own _ rfl _ _ 24 rfl (w.heap.size + 1) 40 i0 _ 2 16 Try.underlying24 hi hz0 hz1 hz2 rfl (by decide) _ _ _ rfl (HR.out.2.2.alloc _) ⟨wrqq.heap.size, 0, none⟩ 1 1 [.int .i64 f, .int .i64 t] rfl rfl ?g1 ?g2 ?g3 ?g4 ?g5 ?_)
                try (case g1 => exact pair_new wrqq _ _ _ _ rfl)
                case g2 => simp [Value.oneCell']
                case g3 => unfold maxLen; first | omega | (simp; omega)
                case g4 => first | omega | (simp; omega)
                case g5 => have hx5 : w.heap.size < wrqq.heap.size := cell_in HR.out.2.1.a; first | omega | (simp; omega)
                intro v' wz hown1 hg1 _
                have wzH := Lib.hid (And.intro (grow_own (grownBy_trans HR.out.1 (World.grownBy_alloc wrqq (.cells #[.int .i64 f, .int .i64 t] 40) none)) hg1 (HR.out.2.2.alloc (.cells #[.int .i64 f, .int .i64 t] 40)) (Nat.le_succ _)) (And.intro ((HR.out.2.1.kept (World.grownBy_alloc wrqq (.cells #[.int .i64 f, .int .i64 t] 40) none) (by simp)).kept hg1 (fun e => by have := (HR.out.2.2.lt _ e.symm).1; omega)) (show wz.ownsRow (w.heap.size + 1) 40 2 v' (hs ++ [(f, t)]).length (rgsV (hs ++ [(f, t)])) by rw [rgsV_snoc, List.length_append, List.length_singleton]; first | exact hown1 | (rw [List.length_append, List.length_singleton]; exact hown1))))
                clear hown1 hg1
                go_wp2_with fail
                go_roundw
                case rel => exact ⟨j + 1, hs ++ [(f, t)], true, hlt, by go_num, rfl, wzH.out.1, wzH.out.2.1, wzH.out.2.2, HX.out, by simp only [List.length_append, List.length_singleton]; omega, by have := cell_in wzH.out.2.1.a; simp at this; omega⟩
                case measure => simp [intOf]; omega
                
        · obtain rfl : j = l.length := by omega
          have HE := HS.out.2.2.2
          rw [List.drop_length, emit] at HE
          have HP := Lib.hid (show putR l (p, m) = emit l (r, s) false by rw [putR, HXE.out])
          obtain ⟨z0, z1, z2, z3⟩ := HS.out.2.1
          cases bb
          · rw [if_neg (by simp)] at HE
            have HE := Lib.hid HE
            go_wp2_with (at_builtin; refine wpList_append_own _ rfl _ _ 24 rfl (w.heap.size + 1) 40 i0 _ 2 16 Try.underlying24 hi hz0 hz1 hz2 rfl (by decide) _ _ _ rfl (HS.out.2.2.1.alloc _) ⟨wr.heap.size, 0, none⟩ 1 1 [.int .i64 r, .int .i64 s] rfl rfl ?h1 ?h2 ?h3 ?h4 ?h5 ?_)
            try (case h1 => exact pair_new wr _ _ _ _ rfl)
            case h2 => simp [Value.oneCell']
            case h3 => unfold maxLen; first | omega | (simp; omega)
            case h4 => first | omega | (simp; omega)
            case h5 => have hx5 : w.heap.size < wr.heap.size := cell_in HS.out.2.1.a; first | omega | (simp; omega)
            intro v' wz hown1 hg1 _
            have wzH := Lib.hid (And.intro (grow_own (grownBy_trans HS.out.1 (World.grownBy_alloc wr (.cells #[.int .i64 r, .int .i64 s] 40) none)) hg1 (HS.out.2.2.1.alloc (.cells #[.int .i64 r, .int .i64 s] 40)) (Nat.le_succ _)) (And.intro ((HS.out.2.1.kept (World.grownBy_alloc wr (.cells #[.int .i64 r, .int .i64 s] 40) none) (by simp)).kept hg1 (fun e => by have := (HS.out.2.2.1.lt _ e.symm).1; omega)) (show wz.ownsRow (w.heap.size + 1) 40 2 v' (hs ++ [(r, s)]).length (rgsV (hs ++ [(r, s)])) by rw [rgsV_snoc, List.length_append, List.length_singleton]; first | exact hown1 | (rw [List.length_append, List.length_singleton]; exact hown1))))
            clear hown1 hg1
            go_wp2_with fail
            go_ret
            refine ⟨_, rfl, wzH.out.1, ?_⟩
            rw [HP.out, ← HE.out]
            exact own_base wzH.out.2.2 (Nat.le_succ _)
          · rw [if_pos rfl, List.append_nil] at HE
            have HE := Lib.hid HE
            go_wp2_with fail
            go_ret
            refine ⟨_, rfl, HS.out.1, ?_⟩
            rw [HP.out, ← HE.out]
            exact own_base HS.out.2.2.1 (Nat.le_succ _)

end Go.Proofs.Ytedgfiagefhahaa
