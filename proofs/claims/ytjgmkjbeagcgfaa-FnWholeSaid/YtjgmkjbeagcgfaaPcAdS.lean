/- One piece more, or a refusal: the model's. -/
import Derived.Test.YtjgmkjbeagcgfaaPcAd
namespace Go.Proofs.Ytjgmkjbeagcgfaa
open Go.RowKit

theorem pcIn_two (p : Int) (m : List UInt8) : pcIn 5000 300 (p, m) = (inB p 0 5000 && inB (m.length : Int) 1 300) := by
  simp only [pcIn, inB, ← Bool.decide_and]
  exact decide_eq_decide.mpr ⟨fun h => ⟨⟨h.1, h.2.1⟩, h.2.2.1, h.2.2.2⟩, fun h => ⟨h.1.1, h.1.2, h.2.1, h.2.2⟩⟩
theorem pcIn_of {F B : Int} {x : Pk} (h : pcIn F B x = true) : 0 ≤ x.1 ∧ x.1 ≤ F ∧ (1 : Int) ≤ x.2.length ∧ (x.2.length : Int) ≤ B := of_decide_eq_true h

set_option maxRecDepth 100000 in
theorem piece5_any (p : Int) (m : List UInt8) (w : World) : Calls Try.prog 43 #[.agg #[.int .i64 p, .string ⟨m.toArray⟩]] w fun e w' => e = .returned (.bool (pcIn 5000 300 (p, m))) ∧ w.grownBy w' none := by
  cases h : inB p 0 5000
  · go_enter Try.func43, Try.ntmps43
    go_wp2_with (go_at_call 27; refine (in_any _ _ _ _).mono ?_; rintro e w' ⟨rfl, rfl⟩)
    go_ret
    exact ⟨ret_b (by rw [pcIn_two, h]; rfl), World.grownBy_alloc _ _ _⟩
  · cases h2 : inB (m.length : Int) 1 300
    all_goals
      go_enter Try.func43, Try.ntmps43
      go_wp2_with (go_at_call 27; refine (in_any _ _ _ _).mono ?_; rintro e w' ⟨rfl, rfl⟩)
      go_ret
      exact ⟨ret_b (by rw [pcIn_two, h, h2]; rfl), World.grownBy_alloc _ _ _⟩

noncomputable def addOk (l : List Pk) (x : Pk) : Bool := pcsOk l && pcIn 5000 300 x && pcsOk (withL l x)
noncomputable def addR (l : List Pk) (x : Pk) : List Pk := if addOk l x = true then withL l x else []
def AddPost (w : World) (l : List Pk) (x : Pk) (e : Ending) (w' : World) : Prop :=
  ∃ v, e = .returned (.tuple #[v, .bool (addOk l x)]) ∧ w.grownBy w' none ∧ w'.ownsRow w.heap.size 55 2 v (addR l x).length (pksV (addR l x))

set_option maxRecDepth 100000 in
set_option maxHeartbeats 4000000 in
theorem add_spec (a : Option Addr) (c : Nat) (l : List Pk) (p : Int) (m : List UInt8) (w : World) (h : PkAt w a l) (hl : l.length ≤ 9223372036854775807) :
    Calls Try.prog 31 #[.slice a l.length c, .agg #[.int .i64 p, .string ⟨m.toArray⟩]] w (AddPost w l (p, m)) := by
  have H := Lib.hid h
  clear h
  have HA := Lib.hid (World.grownBy_alloc w (.cells #[.int .i64 p, .string ⟨m.toArray⟩] 55) none)
  cases hok : pcsOk l
  · have HE := Lib.hid (show addOk l (p, m) = false by simp [addOk, hok])
    have HR := Lib.hid (show addR l (p, m) = [] by simp [addR, HE.out])
    go_enter Try.func31, Try.ntmps31
    go_wp2_with fail
    refine (ok_spec _ _ _ _ (H.out.kept HA.out) hl).mono ?_
    rintro e w1 ⟨rfl, hg⟩
    rw [hok]
    have H1 := Lib.hid (grownBy_trans HA.out hg)
    clear hg
    go_wp2_with fail
    refine bodyPost_ret (v := .tuple #[.slice none 0 0, .bool false]) (by simp [results, Try.results31, go_sem]) rfl ⟨.slice none 0 0, by rw [HE.out], H1.out, ?_⟩
    rw [HR.out]
    exact World.ownsRow_nil _ _ _ _
  · have HP := Lib.hid (pcs_of hok)
    cases hx : pcIn 5000 300 (p, m)
    · have HE := Lib.hid (show addOk l (p, m) = false by simp [addOk, hx])
      have HR := Lib.hid (show addR l (p, m) = [] by simp [addR, HE.out])
      go_enter Try.func31, Try.ntmps31
      go_wp2_with fail
      refine (ok_spec _ _ _ _ (H.out.kept HA.out) hl).mono ?_
      rintro e w1 ⟨rfl, hg⟩
      rw [hok]
      have c0 := hg.cell (a := ⟨w.heap.size, 0, none⟩) (v := .int .i64 p) (by go_simp) (by simp)
      have c1 := hg.cell (a := ⟨w.heap.size, 1, none⟩) (v := .string ⟨m.toArray⟩) (by go_simp) (by simp)
      have H1 := Lib.hid (grownBy_trans HA.out hg)
      clear hg
      go_wp2_with fail
      refine (piece5_any _ _ _).mono ?_
      rintro e w2 ⟨rfl, hg⟩
      rw [hx]
      have H2 := Lib.hid (grownBy_trans H1.out hg)
      clear hg
      go_wp2_with fail
      refine bodyPost_ret (v := .tuple #[.slice none 0 0, .bool false]) (by simp [results, Try.results31, go_sem]) rfl ⟨.slice none 0 0, by rw [HE.out], H2.out, ?_⟩
      rw [HR.out]
      exact World.ownsRow_nil _ _ _ _
    · obtain ⟨p0, p1, p2, p3⟩ := pcIn_of hx
      dsimp only at p0 p1 p2 p3
      have p2' : 1 ≤ m.length := by omega
      have p3' : m.length ≤ 300 := by omega
      have hwl := with_len l (p, m)
      have hl60 := HP.out.1
      cases ho : pcsOk (withL l (p, m))
      · have HE := Lib.hid (show addOk l (p, m) = false by simp [addOk, ho])
        have HR := Lib.hid (show addR l (p, m) = [] by simp [addR, HE.out])
        go_enter Try.func31, Try.ntmps31
        go_wp2_with fail
        refine (ok_spec _ _ _ _ (H.out.kept HA.out) hl).mono ?_
        rintro e w1 ⟨rfl, hg⟩
        rw [hok]
        have c0 := hg.cell (a := ⟨w.heap.size, 0, none⟩) (v := .int .i64 p) (by go_simp) (by simp)
        have c1 := hg.cell (a := ⟨w.heap.size, 1, none⟩) (v := .string ⟨m.toArray⟩) (by go_simp) (by simp)
        have H1 := Lib.hid (grownBy_trans HA.out hg)
        clear hg
        go_wp2_with fail
        refine (piece5_any _ _ _).mono ?_
        rintro e w2 ⟨rfl, hg⟩
        rw [hx]
        have d0 := hg.cell c0 (by simp)
        have d1 := hg.cell c1 (by simp)
        have H2 := Lib.hid (grownBy_trans H1.out hg)
        clear hg c0 c1
        go_wp2_with fail
        refine (added_spec1 _ _ _ _ _ _ (H.out.kept H2.out) HP.out p0 p1 p2' p3').mono ?_
        rintro e w3 ⟨v3, rfl, hg, hown⟩
        obtain ⟨a3, c3, rfl⟩ := own_slice hown
        have H3 := Lib.hid (And.intro (grownBy_trans H2.out hg) hown)
        clear hg hown d0 d1
        go_wp2_with fail
        refine (ok_spec _ _ _ _ (pk_own H3.out.2) (by omega)).mono ?_
        rintro e w4 ⟨rfl, hg⟩
        rw [ho]
        have H4 := Lib.hid (grownBy_trans H3.out.1 hg)
        clear hg
        go_wp2_with fail
        refine bodyPost_ret (v := .tuple #[.slice none 0 0, .bool false]) (by simp [results, Try.results31, go_sem]) rfl ⟨.slice none 0 0, by rw [HE.out], H4.out, ?_⟩
        rw [HR.out]
        exact World.ownsRow_nil _ _ _ _
      · have HE := Lib.hid (show addOk l (p, m) = true by simp [addOk, ho, hok, hx])
        have HR := Lib.hid (show addR l (p, m) = withL l (p, m) by simp [addR, HE.out])
        go_enter Try.func31, Try.ntmps31
        go_wp2_with fail
        refine (ok_spec _ _ _ _ (H.out.kept HA.out) hl).mono ?_
        rintro e w1 ⟨rfl, hg⟩
        rw [hok]
        have c0 := hg.cell (a := ⟨w.heap.size, 0, none⟩) (v := .int .i64 p) (by go_simp) (by simp)
        have c1 := hg.cell (a := ⟨w.heap.size, 1, none⟩) (v := .string ⟨m.toArray⟩) (by go_simp) (by simp)
        have H1 := Lib.hid (grownBy_trans HA.out hg)
        clear hg
        go_wp2_with fail
        refine (piece5_any _ _ _).mono ?_
        rintro e w2 ⟨rfl, hg⟩
        rw [hx]
        have d0 := hg.cell c0 (by simp)
        have d1 := hg.cell c1 (by simp)
        have H2 := Lib.hid (grownBy_trans H1.out hg)
        clear hg c0 c1
        go_wp2_with fail
        refine (added_spec1 _ _ _ _ _ _ (H.out.kept H2.out) HP.out p0 p1 p2' p3').mono ?_
        rintro e w3 ⟨v3, rfl, hg, hown⟩
        obtain ⟨a3, c3, rfl⟩ := own_slice hown
        have H3 := Lib.hid (And.intro (grownBy_trans H2.out hg) (own_base hown H2.out.size))
        clear hg hown d0 d1
        go_wp2_with fail
        refine (ok_spec _ _ _ _ (pk_own H3.out.2) (by omega)).mono ?_
        rintro e w4 ⟨rfl, hg⟩
        rw [ho]
        have H4 := Lib.hid (And.intro (grownBy_trans H3.out.1 hg) (own_kept H3.out.2 hg))
        clear hg
        go_wp2_with fail
        refine bodyPost_ret (v := .tuple #[.slice a3 (withL l (p, m)).length c3, .bool true]) (by simp [results, Try.results31, go_sem]) rfl ⟨_, by rw [HE.out], H4.out.1, ?_⟩
        rw [HR.out]
        exact H4.out.2

end Go.Proofs.Ytjgmkjbeagcgfaa
