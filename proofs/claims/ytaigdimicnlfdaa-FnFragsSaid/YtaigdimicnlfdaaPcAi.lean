/- One piece more, or a refusal: the program's. -/
import Derived.Test.YtaigdimicnlfdaaPcWi
namespace Go.Proofs.Ytaigdimicnlfdaa
open Go.RowKit

theorem sl_nil (W : World) : SlAt W (.slice none 0 0) [] := .inl ⟨rfl, rfl⟩

set_option maxRecDepth 100000 in
set_option maxHeartbeats 8000000 in
theorem with_nil (p : Int) (m : List UInt8) (w : World) : Calls Try.prog 35 #[.slice none 0 0, .agg #[.int .i64 p, .string ⟨m.toArray⟩]] w (AddedPost w [] (p, m)) := by
  have HT := Lib.hid (two_new w (.int .i64 p) (.string ⟨m.toArray⟩) 57)
  have HG := Lib.hid (World.grownBy_alloc w (.cells #[.int .i64 p, .string ⟨m.toArray⟩] 57) none)
  go_enter Try.func35, Try.ntmps35
  go_wp2_with fail
  refine wp_loop_rounds 1 ?_
  rw [rounds_succ]
  go_wp2_with fail
  go_quiet (fail)
  have H1 := Lib.hid (And.intro (grownBy_trans HG.out (grownBy_drewN (r := none) nq)) (HT.out.kept (grownBy_drewN (r := none) nq) (by simp)))
  generalize (w.alloc (.cells #[.int .i64 p, .string ⟨m.toArray⟩] 57)).drewN nq = w3 at *
  go_wp2_with fail
  refine wp_loop_rounds 1 ?_
  rw [rounds_succ]
  go_wp2_with fail
  go_quiet (fail)
  have HR3 := Lib.hid (And.intro (grownBy_trans H1.out.1 (grownBy_drewN (r := none) nq)) (H1.out.2.kept (grownBy_drewN (r := none) nq) (by simp)))
  generalize w3.drewN nq = w8 at *
  obtain ⟨a0, a1, a2, a3⟩ := HR3.out.2
  obtain ⟨b0, b1, b2, b3⟩ := HR3.out.2.kept (grownBy_drew (r := none)) (by simp)
  have g0 : w8.grownBy w8.drew none := grownBy_drew
  have HCAT := Lib.hid (show catL [((.slice none 0 0 : Value), ([] : List Pk)), ((.slice (some ⟨w8.heap.size, 0, none⟩) 1 1 : Value), [((p, m) : Pk)]), ((.slice none 0 0 : Value), ([] : List Pk))] = withL [] (p, m) by simp [catL, withL])
  go_wp2_with fail
  go_region_held3 (fun w' => w'.cell? ⟨w.heap.size, 0, none⟩ = some (.int .i64 p) ∧ w'.cell? ⟨w.heap.size, 1, none⟩ = some (.string ⟨m.toArray⟩) ∧ w8.grownBy w' none) ((refine ⟨by first | assumption | exact (World.grownBy_alloc _ _ none).cell (by assumption) (by simp) | exact (World.grownBy_alloc _ _ none).cell ((World.grownBy_alloc _ _ none).cell (by assumption) (by simp)) (by simp) | (simp [*]; done), by first | assumption | exact (World.grownBy_alloc _ _ none).cell (by assumption) (by simp) | exact (World.grownBy_alloc _ _ none).cell ((World.grownBy_alloc _ _ none).cell (by assumption) (by simp)) (by simp) | (simp [*]; done), by first | assumption | exact grownBy_drew | exact grownBy_trans (World.grownBy_alloc _ _ _) grownBy_drew | exact grownBy_trans (World.grownBy_alloc _ _ _) (grownBy_trans (World.grownBy_alloc _ _ _) grownBy_drew) | exact grownBy_trans (World.grownBy_alloc _ _ _) (World.grownBy_alloc _ _ _) | exact World.grownBy_alloc _ _ _⟩))
    (first | (go_at_call 37; have gW : w8.grownBy ((w8.alloc (.cells #[.int .i64 p, .string ⟨m.toArray⟩] 57)).alloc (.cells #[.slice none 0 0, .slice (some ⟨w8.heap.size, 0, none⟩) 1 1, .slice none 0 0] 70)).drew none := grownBy_trans (World.grownBy_alloc _ _ _) (grownBy_trans (World.grownBy_alloc _ _ _) grownBy_drew); refine (concat_any (w8.heap.size + 1) 3 [((.slice none 0 0 : Value), ([] : List Pk)), ((.slice (some ⟨w8.heap.size, 0, none⟩) 1 1 : Value), [((p, m) : Pk)]), ((.slice none 0 0 : Value), ([] : List Pk))] _ (three_sl (by go_simp) (by go_simp) (by go_simp) (sl_nil _) (sl_one (by go_simp) (by go_simp)) (sl_nil _)) (by simp) (by simp [catL]) (by simp [catL])).mono ?_; rintro e w9 ⟨v9, rfl, hg, ho⟩; have q0 := hg.cell (gW.cell a0 (by simp)) (by simp); have q1 := hg.cell (gW.cell a1 (by simp)) (by simp); have q2 := grownBy_trans gW hg; have HOW := Lib.hid (own_base ho (grownBy_trans HR3.out.1 gW).size)))
  go_wp2_with fail
  go_ret
  refine ⟨_, rfl, grownBy_trans HR3.out.1 (by assumption), ?_⟩
  rw [← HCAT.out]
  exact HOW.out

theorem with_any (a : Option Addr) (c : Nat) (l : List Pk) (p : Int) (m : List UInt8) (w : World) (h : RowOk w a c l) (hok : PcsP l) (hp0 : 0 ≤ p) (hp1 : p ≤ 5000) (hm1 : m.length ≤ 300) :
    Calls Try.prog 35 #[.slice a l.length c, .agg #[.int .i64 p, .string ⟨m.toArray⟩]] w (AddedPost w l (p, m)) := by
  have h' := h
  rcases h with ⟨rfl, rfl, rfl⟩ | ⟨b, off, rfl, h1, h2, _⟩
  · exact with_nil p m w
  · exact with_some b off c l p m w h' h1 h2 hok hp0 hp1 hm1

theorem RowOk.at {w : World} {a : Option Addr} {c : Nat} {l : List Pk} (h : RowOk w a c l) : PkAt w a l := by
  rcases h with ⟨_, _, h⟩ | ⟨b, off, ha, _, _, hc⟩
  · exact .inl h
  · by_cases h0 : l.length = 0
    · exact .inl (List.length_eq_zero_iff.mp h0)
    · exact .inr ⟨b, off, ha, World.block_lt_of_cell? w _ (hc 0 (by omega)).1, hc⟩

theorem row_own {w : World} {base : Nat} {e : TypeId} {ao : Option Addr} {c : Nat} {l : List Pk} (h : w.ownsRow base e 2 (.slice ao l.length c) l.length (pksV l)) : RowOk w ao c l := by
  rcases h.2 with ⟨hv, h0⟩ | ⟨g, cap, cur, hv, _, _, hle, hmx, _⟩
  · simp at hv
    exact .inl ⟨hv.1, hv.2.2, List.length_eq_zero_iff.mp h0⟩
  · simp at hv
    obtain ⟨rfl, rfl⟩ := hv
    refine .inr ⟨g, 0, rfl, hle, by unfold maxLen at hmx; omega, fun i hi => ?_⟩
    obtain ⟨a, b⟩ := pksV_get l i hi
    rw [Nat.zero_add, h.cellAt (i * 2) (by omega), h.cellAt (i * 2 + 1) (by omega)]
    exact ⟨a, b⟩

set_option maxRecDepth 100000 in
set_option maxHeartbeats 4000000 in
theorem add_impl (a : Option Addr) (c : Nat) (l : List Pk) (p : Int) (m : List UInt8) (w : World) (h : RowOk w a c l) :
    Calls Try.prog 31 #[.slice a l.length c, .agg #[.int .i64 p, .string ⟨m.toArray⟩]] w (AddPost w l (p, m)) := by
  have H := Lib.hid h
  clear h
  have HA := Lib.hid (World.grownBy_alloc w (.cells #[.int .i64 p, .string ⟨m.toArray⟩] 57) none)
  cases hok : pcsOk l
  · have HE := Lib.hid (show addOk l (p, m) = false by simp [addOk, hok])
    have HR := Lib.hid (show addR l (p, m) = [] by simp [addR, HE.out])
    go_enter Try.func31, Try.ntmps31
    go_wp2_with fail
    refine (ok_impl _ _ _ _ (H.out.kept HA.out).at).mono ?_
    rintro e w1 ⟨rfl, hg⟩
    rw [hok]
    have H1 := Lib.hid (grownBy_trans HA.out hg)
    clear hg
    go_wp2_with fail
    refine bodyPost_ret (v := .tuple #[.slice none 0 0, .bool false]) (by simp [results, Try.results31, go_sem]) rfl ⟨.slice none 0 0, by rw [HE.out], H1.out, ?_⟩
    rw [HR.out]
    exact World.ownsRow_nil _ _ _ _
  · have HP := Lib.hid (pcs_of hok)
    cases hx : pcIn 5000 300 (p, m)
    · have HE := Lib.hid (show addOk l (p, m) = false by simp [addOk, hx])
      have HR := Lib.hid (show addR l (p, m) = [] by simp [addR, HE.out])
      go_enter Try.func31, Try.ntmps31
      go_wp2_with fail
      refine (ok_impl _ _ _ _ (H.out.kept HA.out).at).mono ?_
      rintro e w1 ⟨rfl, hg⟩
      rw [hok]
      have c0 := hg.cell (a := ⟨w.heap.size, 0, none⟩) (v := .int .i64 p) (by go_simp) (by simp)
      have c1 := hg.cell (a := ⟨w.heap.size, 1, none⟩) (v := .string ⟨m.toArray⟩) (by go_simp) (by simp)
      have H1 := Lib.hid (grownBy_trans HA.out hg)
      clear hg
      go_wp2_with fail
      refine (piece_any _ _ _ _ _).mono ?_
      rintro e w2 ⟨rfl, hg⟩
      rw [hx]
      have H2 := Lib.hid (grownBy_trans H1.out hg)
      clear hg
      go_wp2_with fail
      refine bodyPost_ret (v := .tuple #[.slice none 0 0, .bool false]) (by simp [results, Try.results31, go_sem]) rfl ⟨.slice none 0 0, by rw [HE.out], H2.out, ?_⟩
      rw [HR.out]
      exact World.ownsRow_nil _ _ _ _
    · obtain ⟨p0, p1, p2, p3⟩ := pcIn_of hx
      dsimp only at p0 p1 p2 p3
      have p3' : m.length ≤ 300 := by omega
      have hwl := with_len l (p, m)
      have hl60 := HP.out.1
      cases ho : pcsOk (withL l (p, m))
      · have HE := Lib.hid (show addOk l (p, m) = false by simp [addOk, ho])
        have HR := Lib.hid (show addR l (p, m) = [] by simp [addR, HE.out])
        go_enter Try.func31, Try.ntmps31
        go_wp2_with fail
        refine (ok_impl _ _ _ _ (H.out.kept HA.out).at).mono ?_
        rintro e w1 ⟨rfl, hg⟩
        rw [hok]
        have c0 := hg.cell (a := ⟨w.heap.size, 0, none⟩) (v := .int .i64 p) (by go_simp) (by simp)
        have c1 := hg.cell (a := ⟨w.heap.size, 1, none⟩) (v := .string ⟨m.toArray⟩) (by go_simp) (by simp)
        have H1 := Lib.hid (grownBy_trans HA.out hg)
        clear hg
        go_wp2_with fail
        refine (piece_any _ _ _ _ _).mono ?_
        rintro e w2 ⟨rfl, hg⟩
        rw [hx]
        have d0 := hg.cell c0 (by simp)
        have d1 := hg.cell c1 (by simp)
        have H2 := Lib.hid (grownBy_trans H1.out hg)
        clear hg c0 c1
        go_wp2_with fail
        refine (with_any _ _ _ _ _ _ (H.out.kept H2.out) HP.out p0 p1 p3').mono ?_
        rintro e w3 ⟨v3, rfl, hg, hown⟩
        obtain ⟨a3, c3, rfl⟩ := own_slice hown
        have H3 := Lib.hid (And.intro (grownBy_trans H2.out hg) (own_base hown H2.out.size))
        clear hg hown d0 d1
        go_wp2_with fail
        refine (ok_impl _ _ _ _ (pk_own H3.out.2)).mono ?_
        rintro e w4 ⟨rfl, hg⟩
        rw [ho]
        have H4 := Lib.hid (And.intro (grownBy_trans H3.out.1 hg) (own_kept H3.out.2 hg))
        clear hg
        go_wp2_with fail
        refine bodyPost_ret (v := .tuple #[.slice none 0 0, .bool false]) (by simp [results, Try.results31, go_sem]) rfl ⟨.slice none 0 0, by rw [HE.out], H4.out.1, ?_⟩
        rw [HR.out]
        exact World.ownsRow_nil _ _ _ _
      · have HE := Lib.hid (show addOk l (p, m) = true by simp [addOk, ho, hok, hx])
        have HR := Lib.hid (show addR l (p, m) = withL l (p, m) by simp [addR, HE.out])
        go_enter Try.func31, Try.ntmps31
        go_wp2_with fail
        refine (ok_impl _ _ _ _ (H.out.kept HA.out).at).mono ?_
        rintro e w1 ⟨rfl, hg⟩
        rw [hok]
        have c0 := hg.cell (a := ⟨w.heap.size, 0, none⟩) (v := .int .i64 p) (by go_simp) (by simp)
        have c1 := hg.cell (a := ⟨w.heap.size, 1, none⟩) (v := .string ⟨m.toArray⟩) (by go_simp) (by simp)
        have H1 := Lib.hid (grownBy_trans HA.out hg)
        clear hg
        go_wp2_with fail
        refine (piece_any _ _ _ _ _).mono ?_
        rintro e w2 ⟨rfl, hg⟩
        rw [hx]
        have d0 := hg.cell c0 (by simp)
        have d1 := hg.cell c1 (by simp)
        have H2 := Lib.hid (grownBy_trans H1.out hg)
        clear hg c0 c1
        go_wp2_with fail
        refine (with_any _ _ _ _ _ _ (H.out.kept H2.out) HP.out p0 p1 p3').mono ?_
        rintro e w3 ⟨v3, rfl, hg, hown⟩
        obtain ⟨a3, c3, rfl⟩ := own_slice hown
        have H3 := Lib.hid (And.intro (grownBy_trans H2.out hg) (own_base hown H2.out.size))
        clear hg hown d0 d1
        go_wp2_with fail
        refine (ok_impl _ _ _ _ (pk_own H3.out.2)).mono ?_
        rintro e w4 ⟨rfl, hg⟩
        rw [ho]
        have H4 := Lib.hid (And.intro (grownBy_trans H3.out.1 hg) (own_kept H3.out.2 hg))
        clear hg
        go_wp2_with fail
        refine bodyPost_ret (v := .tuple #[.slice a3 (withL l (p, m)).length c3, .bool true]) (by simp [results, Try.results31, go_sem]) rfl ⟨_, by rw [HE.out], H4.out.1, ?_⟩
        rw [HR.out]
        exact H4.out.2

end Go.Proofs.Ytaigdimicnlfdaa
