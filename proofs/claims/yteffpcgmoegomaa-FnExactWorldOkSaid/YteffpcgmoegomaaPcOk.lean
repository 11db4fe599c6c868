/- Whether pieces are right: the program's and the model's. -/
import Derived.Test.YteffpcgmoegomaaPcs
namespace Go.Proofs.Yteffpcgmoegomaa.P7
open Go.RowKit

def pcIn (F B : Int) (p : Pk) : Bool := decide (0 ≤ p.1 ∧ p.1 ≤ F ∧ (1 : Int) ≤ p.2.length ∧ (p.2.length : Int) ≤ B)
def pc1 (p : Pk) : Prop := 0 ≤ p.1 ∧ p.1 ≤ 6000 ∧ 1 ≤ p.2.length ∧ p.2.length ≤ 6000
theorem pcIn_iff (p : Pk) : pcIn 6000 6000 p = true ↔ pc1 p := by simp only [pcIn, pc1, decide_eq_true_eq]; omega
def Apart (l : List Pk) : Prop := ∀ i (h : i + 1 < l.length), (l[i]'(by omega)).1 + ((l[i]'(by omega)).2.length : Int) < (l[i + 1]'h).1
def PcsP (l : List Pk) : Prop := l.length ≤ 60 ∧ (∀ x ∈ l, pc1 x) ∧ Apart l
noncomputable def pcsOk (l : List Pk) : Bool := @decide (PcsP l) (Classical.propDecidable _)
theorem pcs_yes {l : List Pk} (h : PcsP l) : pcsOk l = true := by simpa [pcsOk] using h
theorem pcs_no {l : List Pk} (h : ¬ PcsP l) : pcsOk l = false := by simpa [pcsOk] using h
theorem pcs_of {l : List Pk} (h : pcsOk l = true) : PcsP l := by simpa [pcsOk] using h
theorem pcs_not {l : List Pk} (h : pcsOk l = false) : ¬ PcsP l := by simpa [pcsOk] using h
def ApartTo (l : List Pk) (j : Nat) : Prop := ∀ i (h : i + 1 < l.length), i + 1 < j → (l[i]'(by omega)).1 + ((l[i]'(by omega)).2.length : Int) < (l[i + 1]'h).1

set_option maxRecDepth 100000 in
theorem piece_any (t F B : Int) (m : List UInt8) (w : World) : Calls Try.prog 74 #[.agg #[.int .i64 t, .string ⟨m.toArray⟩], .int .i64 F, .int .i64 B] w fun e w' => e = .returned (.bool (pcIn F B (t, m))) ∧ w.grownBy w' none := by
  by_cases h0 : 0 ≤ t
  · by_cases h1 : t ≤ F
    · by_cases h2 : (1 : Int) ≤ (m.length : Int)
      · by_cases h3 : (m.length : Int) ≤ B
        all_goals
          go_enter Try.func74, Try.ntmps74
          go_wp2
          go_ret
          exact ⟨ret_b (by simp only [pcIn]; first | exact (decide_eq_true ⟨h0, h1, h2, h3⟩).symm | exact (decide_eq_false (fun h => by omega)).symm), World.grownBy_alloc _ _ _⟩
      · go_enter Try.func74, Try.ntmps74
        go_wp2
        go_ret
        exact ⟨ret_b (by simp only [pcIn]; exact (decide_eq_false (fun h => by omega)).symm), World.grownBy_alloc _ _ _⟩
    · go_enter Try.func74, Try.ntmps74
      go_wp2
      go_ret
      exact ⟨ret_b (by simp only [pcIn]; exact (decide_eq_false (fun h => by omega)).symm), World.grownBy_alloc _ _ _⟩
  · go_enter Try.func74, Try.ntmps74
    go_wp2
    go_ret
    exact ⟨ret_b (by simp only [pcIn]; exact (decide_eq_false (fun h => by omega)).symm), World.grownBy_alloc _ _ _⟩

set_option maxRecDepth 100000 in
theorem start_any (t : Int) (m : List UInt8) (w : World) : Calls Try.prog 63 #[.agg #[.int .i64 t, .string ⟨m.toArray⟩]] w fun e w' => e = .returned (.int .i64 t) ∧ w.grownBy w' none := by
  go_enter Try.func63, Try.ntmps63
  go_wp2
  go_ret
  exact ⟨rfl, World.grownBy_alloc _ _ _⟩

set_option maxRecDepth 100000 in
theorem end_any (t : Int) (m : List UInt8) (w : World) (h0 : 0 ≤ t) (h1 : t ≤ 1000000) (h2 : m.length ≤ 1000000) : Calls Try.prog 61 #[.agg #[.int .i64 t, .string ⟨m.toArray⟩]] w fun e w' => e = .returned (.int .i64 (t + m.length)) ∧ w.grownBy w' none := by
  have hw : IntKind.i64.wrap (t + (m.length : Int)) = t + m.length := IntWalk.i64_in _ (by omega)
  go_enter Try.func61, Try.ntmps61
  go_wp2
  go_ret
  exact ⟨by first | rfl | exact ret_i hw | (rw [hw]), World.grownBy_alloc _ _ _⟩

@[go_sem] theorem meth_start (v : Value) (w : World) : (method 265 61 v "loop.example/g00559/impl.start").run Try.prog w = .ok (63, v) w := by kernel_rfl

@[go_sem] theorem meth_end (v : Value) (w : World) : (method 265 61 v "loop.example/g00559/impl.end").run Try.prog w = .ok (61, v) w := by kernel_rfl

def PcRel (w : World) (l : List Pk) (i : Value) (wr : World) : Prop :=
  ∃ j : Nat, j ≤ l.length ∧ i = .int .i64 j ∧ w.grownBy wr none ∧ ∀ x ∈ l.take j, pc1 x
def ApRel (w : World) (l : List Pk) (i : Value) (wr : World) : Prop :=
  ∃ k : Nat, (k + 1 ≤ l.length ∨ k = 0) ∧ i = .int .i64 ((k : Int) + 1) ∧ w.grownBy wr none ∧ ApartTo l (k + 1)

set_option maxRecDepth 100000 in
set_option maxHeartbeats 1000000 in
theorem apart_any (a : Option Addr) (c : Nat) (l : List Pk) (w : World) (h : PkAt w a l) (hp : ∀ x ∈ l, pc1 x) (hl : l.length ≤ 60) : Calls Try.prog 75 #[.slice a l.length c] w fun e w' => e = .returned (.bool (@decide (Apart l) (Classical.propDecidable _))) ∧ w.grownBy w' none := by
  have H := Lib.hid (And.intro h hp)
  clear h hp
  go_enter Try.func75, Try.ntmps75
  go_wp2_with fail
  go_loopw [3] (fun i wr => ApRel w l i wr) (fun i _ => l.length + 1 - (intOf i).toNat)
  case atStart => exact ⟨0, .inr rfl, rfl, World.grownBy.refl _ _, fun i h h2 => absurd h2 (by omega)⟩
  case round =>
    obtain ⟨k, hk, rfl, hg, hall⟩ := hrel
    have HS := Lib.hid (And.intro hg hall)
    clear hg hall
    by_cases hlt : k + 1 < l.length
    · rcases (H.out.1.kept HS.out.1) with h0 | ⟨b, off, rfl, hb, hc⟩
      · rw [h0] at hlt
        simp at hlt
      · obtain ⟨c0, c1⟩ := hc k (by omega)
        obtain ⟨d0, d1⟩ := hc (k + 1) hlt
        clear hc
        have p0 := H.out.2 _ (List.getElem_mem (show k < l.length by omega))
        have p1 := H.out.2 _ (List.getElem_mem hlt)
        have hgp : (l[k].1 + (l[k].2.length : Int) < l[k + 1].1 ∧ Hid (ApartTo l (k + 1 + 1))) ∨ (l[k + 1].1 ≤ l[k].1 + (l[k].2.length : Int) ∧ Hid (¬ Apart l)) := by
          by_cases hh : l[k].1 + (l[k].2.length : Int) < l[k + 1].1
          · refine .inl ⟨hh, Lib.hid fun i h h2 => ?_⟩
            by_cases e : i = k
            · subst e; exact hh
            · exact HS.out.2 i h (by omega)
          · exact .inr ⟨by omega, Lib.hid fun ha => hh (ha k hlt)⟩
        generalize l[k] = x at *
        generalize l[k + 1] = y at *
        obtain ⟨t, m⟩ := x
        obtain ⟨t2, m2⟩ := y
        obtain ⟨p00, p01, p02, p03⟩ := p0
        clear p1
        dsimp only at p00 p01 p02 p03 c0 c1 d0 d1
        have hlt' : (k : Int) + 1 < (l.length : Int) := by omega
        have hk0 : (0 : Int) ≤ (k : Int) := by omega
        have hj0 : (0 : Int) ≤ (k : Int) + 1 := by omega
        have hj1 : (k : Int) < (l.length : Int) := by omega
        have hj3 : k < l.length := by omega
        have hj4 : IntKind.i64.wrap (k : Int) = k := IntWalk.i64_in _ (by omega)
        have hj2 : ((k : Int) + 1).toNat = k + 1 := by omega
        have hw1 : IntKind.i64.wrap ((k : Int) + 1 - 1) = k := by rw [IntWalk.i64_in _ (by omega)]; omega
        have z0 := grownBy_trans HS.out.1 (grownBy_drew (r := none))
        dsimp only at hgp
        rcases hgp with ⟨hgp, HX⟩ | ⟨hgp, HX⟩
        · have hgp' : ¬ t2 ≤ t + (m.length : Int) := by omega
          go_wp2_with fail
          go_region_held3 (fun w' => w'.cell? ⟨b, off + k * 2, none⟩ = some (.int .i64 t) ∧ w'.cell? ⟨b, off + k * 2 + 1, none⟩ = some (.string ⟨m.toArray⟩) ∧ w'.cell? ⟨b, off + (k + 1) * 2, none⟩ = some (.int .i64 t2) ∧ w'.cell? ⟨b, off + (k + 1) * 2 + 1, none⟩ = some (.string ⟨m2.toArray⟩) ∧ w.grownBy w' none) ((refine ⟨by first | assumption | (simp [*]; done), by first | assumption | (simp [*]; done), by first | assumption | (simp [*]; done), by first | assumption | (simp [*]; done), by assumption⟩))
            (first
              | (go_at_call 63; refine (start_any _ _ _).mono ?_; rintro e w9 ⟨rfl, hg⟩; have q0 := hg.cell (a := ⟨b, off + k * 2, none⟩) (v := .int .i64 t) (by first | assumption | (simp [*]; done)) (by simp); have q1 := hg.cell (a := ⟨b, off + k * 2 + 1, none⟩) (v := .string ⟨m.toArray⟩) (by first | assumption | (simp [*]; done)) (by simp); have q2 := hg.cell (a := ⟨b, off + (k + 1) * 2, none⟩) (v := .int .i64 t2) (by first | assumption | (simp [*]; done)) (by simp); have q3 := hg.cell (a := ⟨b, off + (k + 1) * 2 + 1, none⟩) (v := .string ⟨m2.toArray⟩) (by first | assumption | (simp [*]; done)) (by simp); have q4 := grownBy_trans (a := w) (by assumption) hg)
              | (go_at_call 61; refine (end_any _ _ _ p00 (by omega) (by omega)).mono ?_; rintro e w8 ⟨rfl, hg⟩; have r0 := hg.cell (a := ⟨b, off + k * 2, none⟩) (v := .int .i64 t) (by first | assumption | (simp [*]; done)) (by simp); have r1 := hg.cell (a := ⟨b, off + k * 2 + 1, none⟩) (v := .string ⟨m.toArray⟩) (by first | assumption | (simp [*]; done)) (by simp); have r2 := hg.cell (a := ⟨b, off + (k + 1) * 2, none⟩) (v := .int .i64 t2) (by first | assumption | (simp [*]; done)) (by simp); have r3 := hg.cell (a := ⟨b, off + (k + 1) * 2 + 1, none⟩) (v := .string ⟨m2.toArray⟩) (by first | assumption | (simp [*]; done)) (by simp); have r4 := grownBy_trans (a := w) (by assumption) hg))
          go_wp2_with fail
          go_roundw
          case rel => exact ⟨k + 1, .inl hlt, by go_num, by assumption, HX.out⟩
          case measure => simp [intOf]; omega
        · skip
          go_wp2_with fail
          go_region_held3 (fun w' => w'.cell? ⟨b, off + k * 2, none⟩ = some (.int .i64 t) ∧ w'.cell? ⟨b, off + k * 2 + 1, none⟩ = some (.string ⟨m.toArray⟩) ∧ w'.cell? ⟨b, off + (k + 1) * 2, none⟩ = some (.int .i64 t2) ∧ w'.cell? ⟨b, off + (k + 1) * 2 + 1, none⟩ = some (.string ⟨m2.toArray⟩) ∧ w.grownBy w' none) ((refine ⟨by first | assumption | (simp [*]; done), by first | assumption | (simp [*]; done), by first | assumption | (simp [*]; done), by first | assumption | (simp [*]; done), by assumption⟩))
            (first
              | (go_at_call 63; refine (start_any _ _ _).mono ?_; rintro e w9 ⟨rfl, hg⟩; have q0 := hg.cell (a := ⟨b, off + k * 2, none⟩) (v := .int .i64 t) (by first | assumption | (simp [*]; done)) (by simp); have q1 := hg.cell (a := ⟨b, off + k * 2 + 1, none⟩) (v := .string ⟨m.toArray⟩) (by first | assumption | (simp [*]; done)) (by simp); have q2 := hg.cell (a := ⟨b, off + (k + 1) * 2, none⟩) (v := .int .i64 t2) (by first | assumption | (simp [*]; done)) (by simp); have q3 := hg.cell (a := ⟨b, off + (k + 1) * 2 + 1, none⟩) (v := .string ⟨m2.toArray⟩) (by first | assumption | (simp [*]; done)) (by simp); have q4 := grownBy_trans (a := w) (by assumption) hg)
              | (go_at_call 61; refine (end_any _ _ _ p00 (by omega) (by omega)).mono ?_; rintro e w8 ⟨rfl, hg⟩; have r0 := hg.cell (a := ⟨b, off + k * 2, none⟩) (v := .int .i64 t) (by first | assumption | (simp [*]; done)) (by simp); have r1 := hg.cell (a := ⟨b, off + k * 2 + 1, none⟩) (v := .string ⟨m.toArray⟩) (by first | assumption | (simp [*]; done)) (by simp); have r2 := hg.cell (a := ⟨b, off + (k + 1) * 2, none⟩) (v := .int .i64 t2) (by first | assumption | (simp [*]; done)) (by simp); have r3 := hg.cell (a := ⟨b, off + (k + 1) * 2 + 1, none⟩) (v := .string ⟨m2.toArray⟩) (by first | assumption | (simp [*]; done)) (by simp); have r4 := grownBy_trans (a := w) (by assumption) hg))
          go_wp2_with fail
          go_ret
          exact ⟨ret_b (by simpa using HX.out), by assumption⟩
    · have hlt' : ¬ (k : Int) + 1 < (l.length : Int) := by omega
      have HX := Lib.hid (show Apart l from fun i h => HS.out.2 i h (by omega))
      go_wp2_with fail
      go_ret
      exact ⟨ret_b (by simpa using HX.out), HS.out.1⟩

set_option maxRecDepth 100000 in
set_option maxHeartbeats 1000000 in
theorem ok_impl (a : Option Addr) (c : Nat) (l : List Pk) (w : World) (h : PkAt w a l) : Calls Try.prog 59 #[.slice a l.length c] w fun e w' => e = .returned (.bool (pcsOk l)) ∧ w.grownBy w' none := by
  have H := Lib.hid h
  clear h
  by_cases h60 : 60 < l.length
  · go_enter Try.func59, Try.ntmps59
    go_wp2_with fail
    go_ret
    exact ⟨ret_b (pcs_no (fun h => by have := h.1; omega)).symm, World.grownBy.refl _ _⟩
  · have h60' : ¬ 60 < (l.length : Int) := by omega
    go_enter Try.func59, Try.ntmps59
    go_wp2_with fail
    go_loopw [10] (fun i wr => PcRel w l i wr) (fun i _ => l.length - (intOf i).toNat)
    case atStart => exact ⟨0, Nat.zero_le _, rfl, World.grownBy.refl _ _, by simp⟩
    case round =>
      obtain ⟨j, hj, rfl, hg, hall⟩ := hrel
      have HS := Lib.hid (And.intro hg hall)
      clear hg hall
      by_cases hlt : j < l.length
      · rcases (H.out.kept HS.out.1) with h0 | ⟨b, off, rfl, hb, hc⟩
        · rw [h0] at hlt
          simp at hlt
        · obtain ⟨c0, c1⟩ := hc j hlt
          clear hc
          have HX := Lib.hid (fun hx => all_next (P := pc1) l j hlt HS.out.2 hx)
          have HY := Lib.hid (show ¬ pc1 l[j] → ¬ PcsP l from fun hn hp => hn (hp.2.1 _ (List.getElem_mem hlt)))
          generalize l[j] = x at *
          obtain ⟨t, m⟩ := x
          have hlt' : (j : Int) < (l.length : Int) := by omega
          dsimp only at c0 c1
          cases ht : pcIn 6000 6000 (t, m)
          · have HN := Lib.hid (HY.out fun hh => by
              have := (pcIn_iff _).mpr hh
              rw [ht] at this
              cases this)
            go_wp2_with fail
            refine (piece_any _ _ _ _ _).mono ?_
            rintro e w8 ⟨rfl, hg⟩
            rw [ht]
            have H8 := Lib.hid (grownBy_trans (grownBy_trans HS.out.1 (World.grownBy_alloc _ _ _)) hg)
            clear hg
            go_wp2_with fail
            go_ret
            exact ⟨ret_b (pcs_no HN.out).symm, H8.out⟩
          · have HO := Lib.hid (HX.out ((pcIn_iff _).mp ht))
            go_wp2_with fail
            refine (piece_any _ _ _ _ _).mono ?_
            rintro e w8 ⟨rfl, hg⟩
            rw [ht]
            have H8 := Lib.hid (grownBy_trans (grownBy_trans HS.out.1 (World.grownBy_alloc _ _ _)) hg)
            clear hg
            go_wp2_with fail
            go_roundw
            case rel => exact ⟨j + 1, hlt, by go_num, H8.out, HO.out⟩
            case measure => simp [intOf]; omega
      · obtain rfl : j = l.length := by omega
        have HA := Lib.hid (show ∀ x ∈ l, pc1 x from fun x hx => HS.out.2 x (by rw [List.take_length]; exact hx))
        go_wp2_with fail
        refine (apart_any _ _ _ _ (H.out.kept HS.out.1) HA.out (by omega)).mono ?_
        rintro e w8 ⟨rfl, hg⟩
        have H8 := Lib.hid (grownBy_trans HS.out.1 hg)
        clear hg
        go_wp2_with fail
        go_ret
        refine ⟨ret_b ?_, H8.out⟩
        by_cases hA : Apart l
        · rw [pcs_yes ⟨by omega, HA.out, hA⟩]; simpa using hA
        · rw [pcs_no fun hh => hA hh.2.2]; simpa using hA

end Go.Proofs.Yteffpcgmoegomaa.P7
