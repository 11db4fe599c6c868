/- Filters: what is left of one, what is added: the program's. -/
import Derived.Test.YtljmllmkmjamoaaFlB
namespace Go.Proofs.Ytljmllmkmjamoaa
open Go.RowKit

abbrev OwnRg (w : World) (B : Nat) (a : Option Addr) (c : Nat) (l : List Rg) : Prop := w.ownsRow B 26 2 (.slice a l.length c) l.length (rgsV l)
theorem row_empty (w : World) (T : TypeId) (s B : Nat) (hB : B ≤ w.heap.size) : (w.alloc (.cells #[] T)).ownsRow B T s (.slice (some ⟨w.heap.size, 0, none⟩) 0 0) 0 [] :=
  ⟨by simp, .inr ⟨w.heap.size, 0, #[], rfl, hB, (by show (w.heap.push (Obj.cells #[] T))[w.heap.size]? = _; simp), Nat.le_refl _, by unfold maxLen; omega, by simp, by simp⟩⟩
theorem one_new (w : World) (x : Value) (T : TypeId) (b : Nat) (hb : b = w.heap.size) : ∀ j u, [x][j]? = some u → (w.alloc (.cells #[x] T)).cell? ((⟨b, 0, none⟩ : Addr).add j) = some u := by
  subst hb
  intro j u hj
  match j, hj with
  | 0, hj => simp at hj; subst hj; simp [Addr.add]
theorem bx_row {W W' : World} {B C : Nat} {t e : TypeId} {xs : Array Value} {s m : Nat} {v : Value} {ys : List Value} (h : Bx W B t xs) (ho : W.ownsRow C e s v m ys) (hC : B < C) (hg : W.grownBy W' v.ownBlock) : Bx W' B t xs := h.kept hg (fun e => by have := (ho.lt B e.symm).1; omega)
def ptOf (a : Option Addr) (i : Nat) : Value := .pointer (a.map fun x => ⟨x.block, x.off + i * 2, none⟩)
def kpx (x : Rg) (d : Int) (l : List Rg) : Nat → List (Nat × Rg)
  | 0 => []
  | j + 1 => kpx x d l j ++ (match l[j]? with | some o => if keepF x d o then [(j, o)] else [] | none => [])
theorem kpx_next (x : Rg) (d : Int) (l : List Rg) (j : Nat) (h : j < l.length) : kpx x d l (j + 1) = kpx x d l j ++ if keepF x d l[j] then [(j, l[j])] else [] := by
  rw [kpx, List.getElem?_eq_getElem h]
theorem kpx_len (x : Rg) (d : Int) (l : List Rg) : ∀ j, (kpx x d l j).length ≤ j
  | 0 => by simp [kpx]
  | j + 1 => by
    have := kpx_len x d l j
    rw [kpx, List.length_append]
    split
    · split <;> simp <;> omega
    · simp; omega
theorem kpx_keep (x : Rg) (d : Int) (l : List Rg) : ∀ j, j ≤ l.length → (kpx x d l j).map (·.2) = (l.take j).filter (keepF x d)
  | 0, _ => by simp [kpx]
  | j + 1, h => by
    have h1 := kpx_keep x d l j (by omega)
    rw [kpx_next x d l j (by omega), List.map_append, h1, List.take_succ_eq_append_getElem (by omega), List.filter_append]
    congr 1
    cases hk : keepF x d l[j] <;> simp [hk]
theorem kpx_at (x : Rg) (d : Int) (l : List Rg) : ∀ j, ∀ p ∈ kpx x d l j, l[p.1]? = some p.2
  | 0, p, h => by simp [kpx] at h
  | j + 1, p, h => by
    rw [kpx, List.mem_append] at h
    rcases h with h | h
    · exact kpx_at x d l j p h
    · cases hl : l[j]? with
      | none => rw [hl] at h; simp at h
      | some o =>
        rw [hl] at h
        cases hk : keepF x d o
        · simp [hk] at h
        · simp [hk] at h
          subst h
          exact hl
def ptsV (a : Option Addr) (k : List (Nat × Rg)) : List Value := k.map fun p => ptOf a p.1
theorem infoPt : (Try.prog.info? 41).map (fun i => (i.zero, i.size, i.bytes)) = some (some (.pointer none), 1, 8) := by kernel_rfl

def KpRel (w : World) (a : Option Addr) (l : List Rg) (x : Rg) (d : Int) (v i : Value) (wr : World) : Prop :=
  ∃ j : Nat, j ≤ l.length ∧ i = .int .i64 j ∧ w.grownBy wr none ∧ Bx wr w.heap.size 26 #[.int .i64 x.1, .int .i64 x.2] ∧ wr.ownsRow (w.heap.size + 1) 41 1 v (kpx x d l j).length (ptsV a (kpx x d l j))
def KpPost (w : World) (a : Option Addr) (l : List Rg) (x : Rg) (d : Int) (e : Ending) (w' : World) : Prop :=
  ∃ v, e = .returned v ∧ w.grownBy w' none ∧ w'.ownsRow w.heap.size 41 1 v (kpx x d l l.length).length (ptsV a (kpx x d l l.length))

set_option maxRecDepth 100000 in
set_option maxHeartbeats 2000000 in
theorem remain_any (a : Option Addr) (c : Nat) (l : List Rg) (t r d : Int) (w : World) (h : RgAt w a l) (hx : smP (t, r)) (hd : 1 ≤ d ∧ d ≤ 1000000000000) (hl : l.length ≤ 1000) : Calls Try.prog 15 #[.slice a l.length c, .agg #[.int .i64 t, .int .i64 r], .int .i64 d] w (KpPost w a l (t, r) d) := by
  obtain ⟨i0, hi, hz0, hz1, hz2⟩ := info_of infoPt
  obtain ⟨hx0, hx1, hx2, hx3⟩ := hx
  dsimp only at hx0 hx1 hx2 hx3
  have hw : IntKind.i64.wrap (t - d) = t - d := IntWalk.i64_in _ (by omega)
  have H := Lib.hid h
  have HB := Lib.hid (And.intro (Bx.new w 26 #[.int .i64 t, .int .i64 r]) (World.grownBy_alloc w (.cells #[.int .i64 t, .int .i64 r] 26) none))
  clear h
  go_enter Try.func15, Try.ntmps15
  go_wp2_with fail
  go_loopw [7, 12] (fun v i wr => KpRel w a l (t, r) d v i wr) (fun _ i _ => l.length - (intOf i).toNat)
  case atStart => exact ⟨0, Nat.zero_le _, rfl, HB.out.2, HB.out.1, World.ownsRow_nil _ _ _ _⟩
  case round =>
    clear HB
    obtain ⟨j, hj, rfl, hg, hbx, hown⟩ := hrel
    have b0 := hbx.c 0 rfl
    have b1 := hbx.c 1 rfl
    have HS := Lib.hid (And.intro hg (And.intro hbx hown))
    have hB : w.heap.size < wr.heap.size := hbx.lt
    clear hg hbx hown
    have hkl := kpx_len (t, r) d l j
    by_cases hlt : j < l.length
    · rcases (H.out.kept HS.out.1) with h0 | ⟨b, off, rfl, hb, hc⟩
      · rw [h0] at hlt
        simp at hlt
      · obtain ⟨c0, c1⟩ := hc j hlt
        clear hc
        have HN := Lib.hid (kpx_next (t, r) d l j hlt)
        generalize l[j] = o at *
        obtain ⟨f, q⟩ := o
        have hlt' : (j : Int) < (l.length : Int) := by omega
        have hj0 : (0 : Int) ≤ (j : Int) := by omega
        dsimp only at c0 c1
        by_cases hk : keepF (t, r) d (f, q) = true
        · have HX := Lib.hid (show kpx (t, r) d l (j + 1) = kpx (t, r) d l j ++ [(j, (f, q))] by rw [HN.out, if_pos hk])
          have hk2 : r < q ∧ t - d < f := by simpa [keepF] using hk
          obtain ⟨hk3, hk4⟩ := hk2
          have hk5 : decide (r < q) = true := decide_eq_true hk3
          have hk6 : decide (t - d < f) = true := decide_eq_true hk4
          clear hk
          generalize hK : kpx (t, r) d l j = K at *
          clear hK
          go_wp2_with fail
          go_quiet (fail)
          go_wp2_with (at_builtin; refine wpList_append_own _ rfl _ _ 39 rfl (w.heap.size + 1) 41 i0 _ 1 8 Try.underlying39 hi hz0 hz1 hz2 rfl (by decide) _ _ _ rfl (((own_kept HS.out.2.2 (grownBy_drewN _))).alloc _) ⟨wr.heap.size, 0, none⟩ 1 1 [ptOf (some ⟨b, off, none⟩) j] rfl rfl ?c1 ?c2 ?c3 ?c4 ?c5 ?_)
          case c1 => exact one_new (wr.drewN nq) (.pointer (some ⟨b, off + j * 2, none⟩)) _ _ (by first | rfl | simp)
          case c2 => simp [ptOf, Value.oneCell']
          case c3 => unfold maxLen; omega
          case c4 => omega
          case c5 => simp; omega
          intro v' wz hown1 hg1 _
          have hk1 := own_kept HS.out.2.2 (grownBy_trans (grownBy_drewN nq) (World.grownBy_alloc _ (.cells #[.pointer (some ⟨b, off + j * 2, none⟩)] 41) none))
          have hgg := grown_row_none (grownBy_trans HS.out.1 (grownBy_trans (grownBy_drewN nq) (World.grownBy_alloc _ (.cells #[.pointer (some ⟨b, off + j * 2, none⟩)] 41) none))) hg1 hk1 (by omega)
          have hbb := bx_row ((HS.out.2.1.drew nq).alloc (.cells #[.pointer (some ⟨b, off + j * 2, none⟩)] 41)) hk1 (by omega) hg1
          have HW := Lib.hid (And.intro hgg (And.intro hbb hown1))
          clear hown1 hg1 hk1 hgg hbb b0 b1 c0 c1
          go_wp2_with fail
          go_roundw
          case rel =>
            refine ⟨j + 1, hlt, by go_num, HW.out.1, HW.out.2.1, ?_⟩
            rw [HX.out, List.length_append]
            simpa [ptsV, ptOf] using HW.out.2.2
          case measure => simp [intOf]; omega
        · have HX := Lib.hid (show kpx (t, r) d l (j + 1) = kpx (t, r) d l j by rw [HN.out, if_neg hk, List.append_nil])
          have hk2 : ¬ (r < q ∧ t - d < f) := by simpa [keepF] using hk
          clear hk
          by_cases hk3 : r < q
          · have hk4 : ¬ t - d < f := fun h => hk2 ⟨hk3, h⟩
            have hk5 : decide (r < q) = true := decide_eq_true hk3
            have hk6 : decide (t - d < f) = false := decide_eq_false hk4
            clear hk2
            go_wp2_with fail
            go_quiet (fail)
            go_wp2_with fail
            go_roundw
            case rel => exact ⟨j + 1, hlt, by go_num, grownBy_trans HS.out.1 (grownBy_drewN _), HS.out.2.1.drew _, by rw [HX.out]; exact own_kept HS.out.2.2 (grownBy_drewN _)⟩
            case measure => simp [intOf]; omega
          · have hk5 : decide (r < q) = false := decide_eq_false hk3
            clear hk2
            go_wp2_with fail
            go_quiet (fail)
            go_wp2_with fail
            go_roundw
            case rel => exact ⟨j + 1, hlt, by go_num, grownBy_trans HS.out.1 (grownBy_drewN _), HS.out.2.1.drew _, by rw [HX.out]; exact own_kept HS.out.2.2 (grownBy_drewN _)⟩
            case measure => simp [intOf]; omega
    · obtain rfl : j = l.length := by omega
      go_wp2_with fail
      go_ret
      exact ⟨_, rfl, HS.out.1, own_base HS.out.2.2 (by omega)⟩

def AddPost (w : World) (l : List Rg) (x : Rg) (d : Int) (e : Ending) (w' : World) : Prop :=
  ∃ ao co, e = .returned (.tuple #[.slice ao (addL l x d).length co, .bool (addOk l x d)]) ∧ w.grownBy w' none ∧ OwnRg w' w.heap.size ao co (addL l x d)
theorem add_no {w w' : World} {l : List Rg} {x : Rg} {d : Int} (h : ¬ addP l x d) (hg : w.grownBy w' none) : AddPost w l x d (.returned (.tuple #[.slice none 0 0, .bool false])) w' := by
  refine ⟨none, 0, ?_, hg, ?_⟩
  · rw [addL_no h, addOk_no h]; rfl
  · rw [addL_no h]; exact World.ownsRow_nil _ _ _ _
theorem add_yes {w w' : World} {l : List Rg} {x : Rg} {d : Int} {ao : Option Addr} {co B : Nat} (h : addP l x d) (hg : w.grownBy w' none) (ho : OwnRg w' B ao co (addF l x d)) (hB : w.heap.size ≤ B) : AddPost w l x d (.returned (.tuple #[.slice ao (addF l x d).length co, .bool true])) w' := by
  refine ⟨ao, co, ?_, hg, ?_⟩
  · rw [addL_yes h, addOk_yes h]
  · rw [addL_yes h]; exact own_base ho hB
def FaRel (w : World) (K : List (Nat × Rg)) (v i : Value) (wr : World) : Prop :=
  ∃ j : Nat, j ≤ K.length ∧ i = .int .i64 j ∧ w.grownBy wr none ∧ wr.ownsRow w.heap.size 26 2 v j (rgsV ((K.map (·.2)).take j))
theorem fa_next (K : List (Nat × Rg)) (j : Nat) (h : j < K.length) : rgsV ((K.map (·.2)).take (j + 1)) = rgsV ((K.map (·.2)).take j) ++ [.int .i64 (K[j]).2.1, .int .i64 (K[j]).2.2] := by
  rw [List.take_succ_eq_append_getElem (by simpa using h)]
  simp [rgsV, rgV]
theorem fa_last {w : World} {a : Option Addr} {l : List Rg} (h : RgAt w a l) (k : Nat) (hk : k < l.length) : ∃ b off, a = some ⟨b, off, none⟩ ∧ w.cell? ⟨b, off + k * 2, none⟩ = some (.int .i64 (l[k]).1) := by
  rcases h with h0 | ⟨b, off, ha, hb, hc⟩
  · rw [h0] at hk; simp at hk
  · exact ⟨b, off, ha, (hc k hk).1⟩
theorem fa_cell {w : World} {B n : Nat} {e : TypeId} {v : Value} {xs : List Value} (h : w.ownsRow B e 1 v n xs) (hn : 0 < n) : ∃ g c, v = .slice (some ⟨g, 0, none⟩) n c ∧ ∀ j, j < n → w.cell? ⟨g, j, none⟩ = xs[j]? := by
  rcases h.2 with ⟨_, h0⟩ | ⟨g, cap, cur, hv, _⟩
  · omega
  · subst hv
    exact ⟨g, cap, rfl, fun j hj => h.cellAt j (by omega)⟩

set_option maxRecDepth 100000 in
set_option maxHeartbeats 4000000 in
theorem add_impl (a : Option Addr) (c : Nat) (l : List Rg) (t r d : Int) (w : World) (h : RgAt w a l) (hl0 : (l.length : Int) ≤ 9223372036854775807) : Calls Try.prog 6 #[.slice a l.length c, .agg #[.int .i64 t, .int .i64 r], .int .i64 d] w (AddPost w l (t, r) d) := by
  obtain ⟨i0, hi, hz0, hz1, hz2⟩ := info_of infoRg
  have H := Lib.hid h
  have HB := Lib.hid (And.intro (Bx.new w 26 #[.int .i64 t, .int .i64 r]) (World.grownBy_alloc w (.cells #[.int .i64 t, .int .i64 r] 26) none))
  clear h
  cases hok : flOk l
  · have HOK := Lib.hid hok
    have HNO := Lib.hid (show ¬ addP l (t, r) d from fun h => fl_not hok h.1)
    clear hok
    go_enter Try.func6, Try.ntmps6
    go_wp2_with fail
    refine (fl_impl _ _ _ _ (H.out.kept HB.out.2) hl0).mono ?_
    rintro e w1 ⟨rfl, hg⟩
    rw [HOK.out]
    have H1 := Lib.hid (And.intro (grownBy_trans HB.out.2 hg) (HB.out.1.keep hg))
    clear hg
    have b0 := H1.out.2.c 0 rfl
    have b1 := H1.out.2.c 1 rfl
    go_wp2_with fail
    go_ret2
    exact add_no HNO.out H1.out.1
  · have HOK := Lib.hid hok
    have HOKP := Lib.hid (fl_of hok)
    have hlen : l.length ≤ 1000 := by have := (fl_of hok).1; omega
    clear hok
    by_cases hsm : smP (t, r)
    · have HSM := Lib.hid hsm
      have HSD := Lib.hid (decide_eq_true hsm)
      clear hsm
      by_cases hd1 : d < 1
      · have HNO := Lib.hid (show ¬ addP l (t, r) d from fun h => by have := h.2.2.1; omega)
        go_enter Try.func6, Try.ntmps6
        go_wp2_with fail
        refine (fl_impl _ _ _ _ (H.out.kept HB.out.2) hl0).mono ?_
        rintro e w1 ⟨rfl, hg⟩
        rw [HOK.out]
        have H1 := Lib.hid (And.intro (grownBy_trans HB.out.2 hg) (HB.out.1.keep hg))
        clear hg
        have b0 := H1.out.2.c 0 rfl
        have b1 := H1.out.2.c 1 rfl
        go_wp2_with fail
        refine (smok_any _ _ _).mono ?_
        rintro e w2 ⟨rfl, hg⟩
        rw [HSD.out]
        have H3 := Lib.hid (And.intro (grownBy_trans H1.out.1 hg) (H1.out.2.keep hg))
        clear hg b0 b1
        go_wp2_with fail
        go_ret2
        exact add_no HNO.out H3.out.1
      · by_cases hd2 : 1000000000000 < d
        · have HNO := Lib.hid (show ¬ addP l (t, r) d from fun h => by have := h.2.2.2.1; omega)
          go_enter Try.func6, Try.ntmps6
          go_wp2_with fail
          refine (fl_impl _ _ _ _ (H.out.kept HB.out.2) hl0).mono ?_
          rintro e w1 ⟨rfl, hg⟩
          rw [HOK.out]
          have H1 := Lib.hid (And.intro (grownBy_trans HB.out.2 hg) (HB.out.1.keep hg))
          clear hg
          have b0 := H1.out.2.c 0 rfl
          have b1 := H1.out.2.c 1 rfl
          go_wp2_with fail
          refine (smok_any _ _ _).mono ?_
          rintro e w2 ⟨rfl, hg⟩
          rw [HSD.out]
          have H3 := Lib.hid (And.intro (grownBy_trans H1.out.1 hg) (H1.out.2.keep hg))
          clear hg b0 b1
          go_wp2_with fail
          go_ret2
          exact add_no HNO.out H3.out.1
        · have hdd : 1 ≤ d ∧ d ≤ 1000000000000 := by omega
          rcases Nat.eq_zero_or_pos l.length with h0 | h0
          · have HLA := Lib.hid (show lastOk l (t, r) from fun k h => by omega)
            have hzn : decide ((0 : Int) < (l.length : Int)) = false := decide_eq_false (by omega)
            have hzn2 : decide (0 < l.length) = false := decide_eq_false (by omega)
            clear h0
            go_enter Try.func6, Try.ntmps6
            go_wp2_with fail
            refine (fl_impl _ _ _ _ (H.out.kept HB.out.2) hl0).mono ?_
            rintro e w1 ⟨rfl, hg⟩
            rw [HOK.out]
            have H1 := Lib.hid (And.intro (grownBy_trans HB.out.2 hg) (HB.out.1.keep hg))
            clear hg
            have b0 := H1.out.2.c 0 rfl
            have b1 := H1.out.2.c 1 rfl
            go_wp2_with fail
            refine (smok_any _ _ _).mono ?_
            rintro e w2 ⟨rfl, hg⟩
            rw [HSD.out]
            have H3 := Lib.hid (And.intro (grownBy_trans H1.out.1 hg) (H1.out.2.keep hg))
            clear hg b0 b1
            go_wp2_with fail
            go_quiet (fail)
            have H3 := Lib.hid (And.intro (grownBy_trans H3.out.1 (grownBy_drewN nq)) (H3.out.2.drew nq))
            have b0 := H3.out.2.c 0 rfl
            have b1 := H3.out.2.c 1 rfl
            go_wp2_with fail
            refine (remain_any _ _ _ _ _ _ _ (H.out.kept H3.out.1) HSM.out hdd hlen).mono ?_
            rintro e w4 ⟨v4, rfl, hg, ho⟩
            obtain ⟨a4, c4, rfl⟩ := own_slice ho
            have H4 := Lib.hid (And.intro (grownBy_trans H3.out.1 hg) (And.intro (H3.out.2.keep hg) ho))
            clear hg ho
            have hKl := kpx_len (t, r) d l l.length
            have HKK := Lib.hid (kpx_keep (t, r) d l l.length (Nat.le_refl _))
            have HKA := Lib.hid (kpx_at (t, r) d l l.length)
            generalize kpx (t, r) d l l.length = K at *
            have s4 : w.heap.size < w4.heap.size := H4.out.2.1.lt
            go_wp2_with fail
            go_loopw [8, 47] (fun v i wr => FaRel w4 K v i wr) (fun _ i _ => K.length - (intOf i).toNat)
            case atStart => exact ⟨0, Nat.zero_le _, rfl, World.grownBy.refl _ _, World.ownsRow_nil _ _ _ _⟩
            case round =>
              obtain ⟨j, hj, rfl, hg, hown⟩ := hrel
              have HS := Lib.hid (And.intro hg hown)
              clear hg hown
              have hs4 : w4.heap.size ≤ wr.heap.size := HS.out.1.size
              by_cases hlt : j < K.length
              · obtain ⟨g, cg, hv, hcc⟩ := fa_cell H4.out.2.2 (by omega)
                simp only [Value.slice.injEq, true_and] at hv
                obtain ⟨rfl, rfl⟩ := hv
                have d0 := HS.out.1.cell ((hcc j hlt).trans (by rw [ptsV, List.getElem?_map, List.getElem?_eq_getElem hlt]; rfl)) (by simp)
                clear hcc
                have hp := HKA.out _ (List.getElem_mem hlt)
                have HN := Lib.hid (fa_next K j hlt)
                generalize K[j] = p at *
                obtain ⟨i, f, q⟩ := p
                dsimp only at d0 hp
                have hi2 : i < l.length := by
                  rcases Nat.lt_or_ge i l.length with h1 | h1
                  · exact h1
                  · rw [List.getElem?_eq_none h1] at hp; cases hp
                rcases (H.out.kept (grownBy_trans H4.out.1 HS.out.1)) with h0 | ⟨b, off, he, hb, hc⟩
                · rw [h0] at hi2
                  simp at hi2
                · cases he
                  obtain ⟨c0, c1⟩ := hc i hi2
                  clear hc
                  rw [List.getElem?_eq_getElem hi2] at hp
                  simp only [Option.some.injEq] at hp
                  rw [hp] at c0 c1
                  clear hp
                  dsimp only at c0 c1
                  have hlt' : (j : Int) < (K.length : Int) := by omega
                  have hj0 : (0 : Int) ≤ (j : Int) := by omega
                  simp only [ptOf, Option.map_some] at d0
                  go_wp2_with (at_builtin; refine wpList_append_own _ rfl _ _ 24 rfl w4.heap.size 26 i0 _ 2 16 Try.underlying24 hi hz0 hz1 hz2 rfl (by decide) _ _ _ rfl ((HS.out.2).alloc _) ⟨wr.heap.size, 0, none⟩ 1 1 [.int .i64 f, .int .i64 q] rfl rfl ?cb1 ?cb2 ?cb3 ?cb4 ?cb5 ?_)
                  try (case cb1 => exact pair_new wr _ _ _ _ rfl)
                  case cb2 => simp [Value.oneCell']
                  case cb3 => unfold maxLen; omega
                  case cb4 => omega
                  case cb5 => first | (simp; omega) | omega
                  intro v' wz hown1 hg1 _
                  have hgg := grown_row_none HS.out.1 (grownBy_trans (World.grownBy_alloc wr (.cells #[.int .i64 f, .int .i64 q] 26) _) hg1) HS.out.2 (Nat.le_refl _)
                  have HW := Lib.hid (And.intro hgg (show wz.ownsRow w4.heap.size 26 2 v' (j + 1) (rgsV ((K.map (·.2)).take (j + 1))) by rw [HN.out]; exact hown1))
                  clear hown1 hg1 hgg c0 c1 d0
                  go_wp2_with fail
                  go_roundw
                  case rel => exact ⟨j + 1, hlt, by go_num, HW.out.1, HW.out.2⟩
                  case measure => simp [intOf]; omega
              · obtain rfl : j = K.length := by omega
                have hx := H4.out.2.1.keep HS.out.1
                have x0 := hx.c 0 rfl
                have x1 := hx.c 1 rfl
                rw [show (K.map (·.2)).take K.length = K.map (·.2) from List.take_of_length_le (by simp)] at HS
                have HF := Lib.hid (show rgsV (addF l (t, r) d) = rgsV (K.map (·.2)) ++ [.int .i64 t, .int .i64 r] ∧ (addF l (t, r) d).length = K.length + 1 by
                  rw [HKK.out, List.take_length, addF, rgsV_snoc]
                  refine ⟨rfl, ?_⟩
                  have := congrArg List.length HKK.out
                  rw [List.length_map, List.take_length] at this
                  rw [List.length_append, ← this]; rfl)
                have hA : (addF l (t, r) d).length = K.length + 1 := HF.out.2
                go_wp2_with (at_builtin; refine wpList_append_own _ rfl _ _ 24 rfl w4.heap.size 26 i0 _ 2 16 Try.underlying24 hi hz0 hz1 hz2 rfl (by decide) _ _ _ rfl ((HS.out.2).alloc _) ⟨wr.heap.size, 0, none⟩ 1 1 [.int .i64 t, .int .i64 r] rfl rfl ?cc1 ?cc2 ?cc3 ?cc4 ?cc5 ?_)
                try (case cc1 => exact pair_new wr _ _ _ _ rfl)
                case cc2 => simp [Value.oneCell']
                case cc3 => unfold maxLen; omega
                case cc4 => omega
                case cc5 => first | (simp; omega) | omega
                intro v' wz hown1 hg1 _
                have hgg := grown_row_none HS.out.1 (grownBy_trans (World.grownBy_alloc wr (.cells #[.int .i64 t, .int .i64 r] 26) _) hg1) HS.out.2 (Nat.le_refl _)
                obtain ⟨a5, c5, rfl⟩ := own_slice hown1
                have HW := Lib.hid (And.intro (grownBy_trans H4.out.1 hgg) (show OwnRg wz w4.heap.size a5 c5 (addF l (t, r) d) by rw [← HF.out.1, ← HF.out.2] at hown1; exact hown1))
                clear hown1 hg1 hgg x0 x1 hx
                rw [← HF.out.2]
                clear hA
                generalize hAA : addF l (t, r) d = A at *
                have hAl : A.length ≤ 1001 := by rw [HF.out.2]; omega
                go_wp2_with fail
                refine (fl_impl _ _ A _ (rg_own HW.out.2) (by omega)).mono ?_
                rintro e w6 ⟨rfl, hg⟩
                have H6 := Lib.hid (And.intro (grownBy_trans HW.out.1 hg) (own_kept HW.out.2 hg))
                clear hg
                cases hf : flOk A
                · have HNO := Lib.hid (show ¬ addP l (t, r) d from fun h => by have := fl_yes h.2.2.2.2.2; rw [hAA, hf] at this; cases this)
                  clear hf
                  go_wp2_with fail
                  go_ret2
                  exact add_no HNO.out H6.out.1
                · have HYES := Lib.hid (show addP l (t, r) d from ⟨HOKP.out, HSM.out, hdd.1, hdd.2, HLA.out, by rw [hAA]; exact fl_of hf⟩)
                  have HAA := Lib.hid hAA
                  clear hf hAA
                  go_wp2_with fail
                  go_ret2
                  rw [← HAA.out]
                  exact add_yes HYES.out H6.out.1 (by rw [HAA.out]; exact H6.out.2) (Nat.le_of_lt s4)
          · obtain ⟨k, hk⟩ : ∃ k, l.length = k + 1 := ⟨l.length - 1, by omega⟩
            have hk0 : (0 : Int) ≤ (k : Int) := by omega
            have hk2 : (0 : Int) < (l.length : Int) := by omega
            have hk3 : (k : Int) < (l.length : Int) := by omega
            have hk4 : k < l.length := by omega
            have hk5 : IntKind.i64.wrap (k : Int) = k := IntWalk.i64_in _ (by omega)
            have hk6 : IntKind.i64.wrap ((l.length : Int) - 1) = k := by rw [IntWalk.i64_in _ (by omega)]; omega
            have HKL := Lib.hid hk
            clear hk
            have HLK := Lib.hid (show (l[k]).1 ≤ t → lastOk l (t, r) from fun h k' hk' e => by obtain rfl : k = k' := (by have := HKL.out; omega); exact h)
            have HLN := Lib.hid (show ¬ (l[k]).1 ≤ t → ¬ addP l (t, r) d from fun h hp => h (hp.2.2.2.2.1 k hk4 HKL.out.symm))
            have HC := Lib.hid (show ∀ W, w.grownBy W none → ∃ b off, a = some ⟨b, off, none⟩ ∧ W.cell? ⟨b, off + k * 2, none⟩ = some (.int .i64 (l[k]).1) from fun W g => fa_last (H.out.kept g) k hk4)
            generalize hy : l[k] = y at *
            clear hy
            obtain ⟨ty, ry⟩ := y
            dsimp only at HLK HLN HC
            by_cases hla : t < ty
            · have hlad : decide (t < ty) = true := decide_eq_true hla
              have HNO := Lib.hid (HLN.out (by omega))
              go_enter Try.func6, Try.ntmps6
              go_wp2_with fail
              refine (fl_impl _ _ _ _ (H.out.kept HB.out.2) hl0).mono ?_
              rintro e w1 ⟨rfl, hg⟩
              rw [HOK.out]
              have H1 := Lib.hid (And.intro (grownBy_trans HB.out.2 hg) (HB.out.1.keep hg))
              clear hg
              have b0 := H1.out.2.c 0 rfl
              have b1 := H1.out.2.c 1 rfl
              go_wp2_with fail
              refine (smok_any _ _ _).mono ?_
              rintro e w2 ⟨rfl, hg⟩
              rw [HSD.out]
              have H3 := Lib.hid (And.intro (grownBy_trans H1.out.1 hg) (H1.out.2.keep hg))
              clear hg b0 b1
              obtain ⟨b, off, rfl, d0⟩ := HC.out _ H3.out.1
              have b0 := H3.out.2.c 0 rfl
              have b1 := H3.out.2.c 1 rfl
              go_wp2_with fail
              go_quiet (fail)
              go_wp2_with fail
              go_ret2
              exact add_no HNO.out (grownBy_trans H3.out.1 (grownBy_drewN _))
            · have hlad : decide (t < ty) = false := decide_eq_false hla
              have HLA := Lib.hid (HLK.out (by omega))
              go_enter Try.func6, Try.ntmps6
              go_wp2_with fail
              refine (fl_impl _ _ _ _ (H.out.kept HB.out.2) hl0).mono ?_
              rintro e w1 ⟨rfl, hg⟩
              rw [HOK.out]
              have H1 := Lib.hid (And.intro (grownBy_trans HB.out.2 hg) (HB.out.1.keep hg))
              clear hg
              have b0 := H1.out.2.c 0 rfl
              have b1 := H1.out.2.c 1 rfl
              go_wp2_with fail
              refine (smok_any _ _ _).mono ?_
              rintro e w2 ⟨rfl, hg⟩
              rw [HSD.out]
              have H3 := Lib.hid (And.intro (grownBy_trans H1.out.1 hg) (H1.out.2.keep hg))
              clear hg b0 b1
              obtain ⟨b, off, rfl, d0⟩ := HC.out _ H3.out.1
              have b0 := H3.out.2.c 0 rfl
              have b1 := H3.out.2.c 1 rfl
              go_wp2_with fail
              go_quiet (fail)
              have H3 := Lib.hid (And.intro (grownBy_trans H3.out.1 (grownBy_drewN nq)) (H3.out.2.drew nq))
              clear d0 b0 b1
              have b0 := H3.out.2.c 0 rfl
              have b1 := H3.out.2.c 1 rfl
              go_wp2_with fail
              refine (remain_any _ _ _ _ _ _ _ (H.out.kept H3.out.1) HSM.out hdd hlen).mono ?_
              rintro e w4 ⟨v4, rfl, hg, ho⟩
              obtain ⟨a4, c4, rfl⟩ := own_slice ho
              have H4 := Lib.hid (And.intro (grownBy_trans H3.out.1 hg) (And.intro (H3.out.2.keep hg) ho))
              clear hg ho
              have hKl := kpx_len (t, r) d l l.length
              have HKK := Lib.hid (kpx_keep (t, r) d l l.length (Nat.le_refl _))
              have HKA := Lib.hid (kpx_at (t, r) d l l.length)
              generalize kpx (t, r) d l l.length = K at *
              have s4 : w.heap.size < w4.heap.size := H4.out.2.1.lt
              go_wp2_with fail
              go_loopw [8, 47] (fun v i wr => FaRel w4 K v i wr) (fun _ i _ => K.length - (intOf i).toNat)
              case atStart => exact ⟨0, Nat.zero_le _, rfl, World.grownBy.refl _ _, World.ownsRow_nil _ _ _ _⟩
              case round =>
                obtain ⟨j, hj, rfl, hg, hown⟩ := hrel
                have HS := Lib.hid (And.intro hg hown)
                clear hg hown
                have hs4 : w4.heap.size ≤ wr.heap.size := HS.out.1.size
                by_cases hlt : j < K.length
                · obtain ⟨g, cg, hv, hcc⟩ := fa_cell H4.out.2.2 (by omega)
                  simp only [Value.slice.injEq, true_and] at hv
                  obtain ⟨rfl, rfl⟩ := hv
                  have d0 := HS.out.1.cell ((hcc j hlt).trans (by rw [ptsV, List.getElem?_map, List.getElem?_eq_getElem hlt]; rfl)) (by simp)
                  clear hcc
                  have hp := HKA.out _ (List.getElem_mem hlt)
                  have HN := Lib.hid (fa_next K j hlt)
                  generalize K[j] = p at *
                  obtain ⟨i, f, q⟩ := p
                  dsimp only at d0 hp
                  have hi2 : i < l.length := by
                    rcases Nat.lt_or_ge i l.length with h1 | h1
                    · exact h1
                    · rw [List.getElem?_eq_none h1] at hp; cases hp
                  rcases (H.out.kept (grownBy_trans H4.out.1 HS.out.1)) with h0 | ⟨b, off, he, hb, hc⟩
                  · rw [h0] at hi2
                    simp at hi2
                  · cases he
                    obtain ⟨c0, c1⟩ := hc i hi2
                    clear hc
                    rw [List.getElem?_eq_getElem hi2] at hp
                    simp only [Option.some.injEq] at hp
                    rw [hp] at c0 c1
                    clear hp
                    dsimp only at c0 c1
                    have hlt' : (j : Int) < (K.length : Int) := by omega
                    have hj0 : (0 : Int) ≤ (j : Int) := by omega
                    simp only [ptOf, Option.map_some] at d0
                    go_wp2_with (at_builtin; refine wpList_append_own _ rfl _ _ 24 rfl w4.heap.size 26 i0 _ 2 16 Try.underlying24 hi hz0 hz1 hz2 rfl (by decide) _ _ _ rfl ((HS.out.2).alloc _) ⟨wr.heap.size, 0, none⟩ 1 1 [.int .i64 f, .int .i64 q] rfl rfl ?cd1 ?cd2 ?cd3 ?cd4 ?cd5 ?_)
                    try (case cd1 => exact pair_new wr _ _ _ _ rfl)
                    case cd2 => simp [Value.oneCell']
                    case cd3 => unfold maxLen; omega
                    case cd4 => omega
                    case cd5 => first | (simp; omega) | omega
                    intro v' wz hown1 hg1 _
                    have hgg := grown_row_none HS.out.1 (grownBy_trans (World.grownBy_alloc wr (.cells #[.int .i64 f, .int .i64 q] 26) _) hg1) HS.out.2 (Nat.le_refl _)
                    have HW := Lib.hid (And.intro hgg (show wz.ownsRow w4.heap.size 26 2 v' (j + 1) (rgsV ((K.map (·.2)).take (j + 1))) by rw [HN.out]; exact hown1))
                    clear hown1 hg1 hgg c0 c1 d0
                    go_wp2_with fail
                    go_roundw
                    case rel => exact ⟨j + 1, hlt, by go_num, HW.out.1, HW.out.2⟩
                    case measure => simp [intOf]; omega
                · obtain rfl : j = K.length := by omega
                  have hx := H4.out.2.1.keep HS.out.1
                  have x0 := hx.c 0 rfl
                  have x1 := hx.c 1 rfl
                  rw [show (K.map (·.2)).take K.length = K.map (·.2) from List.take_of_length_le (by simp)] at HS
                  have HF := Lib.hid (show rgsV (addF l (t, r) d) = rgsV (K.map (·.2)) ++ [.int .i64 t, .int .i64 r] ∧ (addF l (t, r) d).length = K.length + 1 by
                    rw [HKK.out, List.take_length, addF, rgsV_snoc]
                    refine ⟨rfl, ?_⟩
                    have := congrArg List.length HKK.out
                    rw [List.length_map, List.take_length] at this
                    rw [List.length_append, ← this]; rfl)
                  have hA : (addF l (t, r) d).length = K.length + 1 := HF.out.2
                  go_wp2_with (at_builtin; refine wpList_append_own _ rfl _ _ 24 rfl w4.heap.size 26 i0 _ 2 16 Try.underlying24 hi hz0 hz1 hz2 rfl (by decide) _ _ _ rfl ((HS.out.2).alloc _) ⟨wr.heap.size, 0, none⟩ 1 1 [.int .i64 t, .int .i64 r] rfl rfl ?ce1 ?ce2 ?ce3 ?ce4 ?ce5 ?_)
                  try (case ce1 => exact pair_new wr _ _ _ _ rfl)
                  case ce2 => simp [Value.oneCell']
                  case ce3 => unfold maxLen; omega
                  case ce4 => omega
                  case ce5 => first | (simp; omega) | omega
                  intro v' wz hown1 hg1 _
                  have hgg := grown_row_none HS.out.1 (grownBy_trans (World.grownBy_alloc wr (.cells #[.int .i64 t, .int .i64 r] 26) _) hg1) HS.out.2 (Nat.le_refl _)
                  obtain ⟨a5, c5, rfl⟩ := own_slice hown1
                  have HW := Lib.hid (And.intro (grownBy_trans H4.out.1 hgg) (show OwnRg wz w4.heap.size a5 c5 (addF l (t, r) d) by rw [← HF.out.1, ← HF.out.2] at hown1; exact hown1))
                  clear hown1 hg1 hgg x0 x1 hx
                  rw [← HF.out.2]
                  clear hA
                  generalize hAA : addF l (t, r) d = A at *
                  have hAl : A.length ≤ 1001 := by rw [HF.out.2]; omega
                  go_wp2_with fail
                  refine (fl_impl _ _ A _ (rg_own HW.out.2) (by omega)).mono ?_
                  rintro e w6 ⟨rfl, hg⟩
                  have H6 := Lib.hid (And.intro (grownBy_trans HW.out.1 hg) (own_kept HW.out.2 hg))
                  clear hg
                  cases hf : flOk A
                  · have HNO := Lib.hid (show ¬ addP l (t, r) d from fun h => by have := fl_yes h.2.2.2.2.2; rw [hAA, hf] at this; cases this)
                    clear hf
                    go_wp2_with fail
                    go_ret2
                    exact add_no HNO.out H6.out.1
                  · have HYES := Lib.hid (show addP l (t, r) d from ⟨HOKP.out, HSM.out, hdd.1, hdd.2, HLA.out, by rw [hAA]; exact fl_of hf⟩)
                    have HAA := Lib.hid hAA
                    clear hf hAA
                    go_wp2_with fail
                    go_ret2
                    rw [← HAA.out]
                    exact add_yes HYES.out H6.out.1 (by rw [HAA.out]; exact H6.out.2) (Nat.le_of_lt s4)
    · have HSD := Lib.hid (decide_eq_false hsm)
      have HNO := Lib.hid (show ¬ addP l (t, r) d from fun h => hsm h.2.1)
      clear hsm
      go_enter Try.func6, Try.ntmps6
      go_wp2_with fail
      refine (fl_impl _ _ _ _ (H.out.kept HB.out.2) hl0).mono ?_
      rintro e w1 ⟨rfl, hg⟩
      rw [HOK.out]
      have H1 := Lib.hid (And.intro (grownBy_trans HB.out.2 hg) (HB.out.1.keep hg))
      clear hg
      have b0 := H1.out.2.c 0 rfl
      have b1 := H1.out.2.c 1 rfl
      go_wp2_with fail
      refine (smok_any _ _ _).mono ?_
      rintro e w2 ⟨rfl, hg⟩
      rw [HSD.out]
      have H3 := Lib.hid (And.intro (grownBy_trans H1.out.1 hg) (H1.out.2.keep hg))
      clear hg b0 b1
      go_wp2_with fail
      go_ret2
      exact add_no HNO.out H3.out.1

end Go.Proofs.Ytljmllmkmjamoaa
