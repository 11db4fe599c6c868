/- The laws' own marking of options, and whether the marks are held. -/
import Derived.Test.YtefpnbmjcailgaaOpR
namespace Go.Proofs.Ytefpnbmjcailgaa
open Go.RowKit

def dgs : Nat → Nat → List UInt8 → List UInt8
  | 0, _, out => out
  | f + 1, k, out => if k = 0 then out else dgs f (k / 10) (UInt8.ofNat (48 + k % 10) :: out)
def mt (k : Nat) : List UInt8 := 109 :: dgs (k + 1) k []

def MtRel (w : World) (k0 : Nat) (k o : Value) (wr : World) : Prop :=
  ∃ (q f : Nat) (out : List UInt8), k = .int .i64 (q : Nat) ∧ o = .string ⟨out.toArray⟩ ∧ dgs (k0 + 1) k0 [] = dgs f q out ∧ q < f ∧ q ≤ k0 ∧ out.length + f = k0 + 1 ∧ w.grownBy wr none

set_option maxRecDepth 100000 in
theorem mark_text (k0 : Nat) (w : World) (h0 : 0 < k0) (h1 : k0 ≤ 1000000) : Calls Try.prog 38 #[.int .i64 (k0 : Nat)] w (StrPost w (mt k0)) := by
  have hp : 0 < (k0 : Int) := by omega
  go_enter Try.func38, Try.ntmps38
  go_wp2_with fail
  go_loopw [0, 3] (fun k o wr => MtRel w k0 k o wr) (fun k _ _ => (intOf k).toNat)
  case atStart => exact ⟨k0, k0 + 1, [], rfl, rfl, rfl, by omega, Nat.le_refl _, by simp, World.grownBy.refl _ _⟩
  case round =>
    obtain ⟨q, f, out, rfl, rfl, hd, hqf, hq0, hof, hg⟩ := hrel
    have HS := Lib.hid (And.intro hg hd)
    clear hg hd
    obtain ⟨f, rfl⟩ : ∃ f', f = f' + 1 := ⟨f - 1, by omega⟩
    by_cases h : q = 0
    · subst h
      have HE := Lib.hid (show dgs (k0 + 1) k0 [] = out by rw [HS.out.2, dgs, if_pos rfl])
      have hk1 : ¬ 9223372036854775807 < 1 + out.length := by omega
      go_wp2_with fail
      go_ret
      exact ⟨ret_ba (by rw [mt, HE.out, show (109 :: out) = [109] ++ out from rfl, ← ba_append]), HS.out.1⟩
    · have HE := Lib.hid (show dgs (k0 + 1) k0 [] = dgs f (q / 10) (UInt8.ofNat (48 + q % 10) :: out) by rw [HS.out.2, dgs, if_neg h])
      have hq1 : 0 < (q : Int) := by omega
      have hb1 : 0 ≤ 48 + (q : Int) % 10 := by omega
      have hb2 : 48 + (q : Int) % 10 ≤ 255 := by omega
      have hb3 : IntKind.u8.wrap (48 + (q : Int) % 10) = 48 + (q : Int) % 10 := by rw [IntKind.wrap]; simp [IntKind.bits, IntKind.signed]; omega
      have hdt : ((UInt8.ofNat (48 + q % 10)).toNat : Int) = 48 + (q : Int) % 10 := by simp; omega
      have HQ := Lib.hid (show ∀ d, UInt8.ofNat (48 + q % 10) = d → dgs (k0 + 1) k0 [] = dgs f (q / 10) (d :: out) from fun d hd => by rw [← hd]; exact HE.out)
      clear HE
      generalize hdd : UInt8.ofNat (48 + q % 10) = d at *
      have HDD := Lib.hid (HQ.out d (by first | exact hdd | rfl))
      clear hdd HQ
      have hcv := conv_new wr #[.int .u8 (48 + (q : Int) % 10)] 5 1 1 [d] rfl (fun j hj => (by have hj' : j = 0 := (by simp at hj; omega); subst hj'; simp; omega))
      clear hdt
      have hk1 : ¬ 9223372036854775807 < 1 + out.length := by omega
      go_wp2_with fail
      go_roundw
      case rel => exact ⟨q / 10, f, d :: out, by go_num, by rw [show d :: out = [d] ++ out from rfl, ← ba_append], HDD.out, by omega, by omega, by simp; omega, grownBy_trans HS.out.1 (World.grownBy_alloc _ _ _)⟩
      case measure => simp [intOf]; omega

theorem mark_text2 (x : Int) (k0 : Nat) (w : World) (hx : x = (k0 : Int)) (h0 : 0 < k0) (h1 : k0 ≤ 1000000) : Calls Try.prog 38 #[.int .i64 x] w (StrPost w (mt k0)) := by
  subst hx
  exact mark_text k0 w h0 h1

def mkL (n : Nat) : List Pk := (List.range n).map fun (i : Nat) => (1 + 2 * (i : Int), mt (2 + 2 * i))
theorem mkL_len (n : Nat) : (mkL n).length = n := by simp [mkL]
theorem mkL_at (n j : Nat) (h : j < (mkL n).length) : (mkL n)[j] = (1 + 2 * (j : Int), mt (2 + 2 * j)) := by simp [mkL]

def MkRel (w : World) (base g cap n : Nat) (l : List Pk) (k i : Value) (wr : World) : Prop :=
  ∃ j : Nat, j ≤ n ∧ i = .int .i64 j ∧ k = .int .i64 (1 + 2 * (j : Int)) ∧ w.grownBy wr (some g) ∧ wr.ownsRow base 43 2 (.slice (some ⟨g, 0, none⟩) n cap) n (pksV ((mkL n).take j) ++ (pksV l).drop (j * 2))

theorem grown_trans_none {a b c : World} {r : Option Nat} (h : a.grownBy b r) (k : b.grownBy c none) : a.grownBy c r :=
  ⟨k.os.trans h.os, k.tape.trans h.tape, k.output.trans h.output, Nat.le_trans h.size k.size, fun i hi hne => (k.block i (Nat.lt_of_lt_of_le hi h.size) (by simp)).trans (h.block i hi hne)⟩

set_option maxRecDepth 100000 in
set_option maxHeartbeats 1000000 in
theorem mark_some (base g cap : Nat) (l : List Pk) (w : World) (hl : l.length ≤ 100) (h : w.ownsRow base 43 2 (.slice (some ⟨g, 0, none⟩) l.length cap) l.length (pksV l)) :
    Calls Try.prog 14 #[.slice (some ⟨g, 0, none⟩) l.length cap, .int .i64 1] w fun e w' => e = .returned (.int .i64 (1 + 2 * (l.length : Int))) ∧ w.grownBy w' (some g) ∧ w'.ownsRow base 43 2 (.slice (some ⟨g, 0, none⟩) l.length cap) l.length (pksV (mkL l.length)) := by
  have H := Lib.hid h
  clear h
  go_enter Try.func14, Try.ntmps14
  go_wp2_with fail
  go_loopw [1, 5] (fun k i wr => MkRel w base g cap l.length l k i wr) (fun _ i _ => l.length - (intOf i).toNat)
  case atStart => exact ⟨0, Nat.zero_le _, rfl, rfl, World.grownBy.refl _ _, by simpa [pksV] using H.out⟩
  case round =>
    obtain ⟨j, hj, rfl, rfl, hg, hown⟩ := hrel
    have HR := Lib.hid (And.intro hg hown)
    clear hg
    by_cases hlt : j < l.length
    · have hlt' : (j : Int) < (l.length : Int) := by omega
      have hML : (mkL l.length).length = l.length := mkL_len _
      have HN := Lib.hid (pks_set (mkL l.length) (pksV l) j (by omega) (by rw [pksV_len, hML]))
      have HAT := Lib.hid (mkL_at l.length j (by omega))
      have hl2 := hown.1
      obtain ⟨y0, d0⟩ : ∃ y, wr.cell? ⟨g, j * 2, none⟩ = some y := by
        rw [hown.cellAt (j * 2) (by omega)]
        exact ⟨_, List.getElem?_eq_getElem (by omega)⟩
      have f0 := hown.frozenAt (j * 2)
      have hs1 := hown.stored (j * 2) (.int .i64 (1 + 2 * (j : Int)))
      have HS1 := Lib.hid hs1
      clear hown hl2 hs1
      go_wp2_with fail
      refine (mark_text2 _ (2 + 2 * j) _ (by omega) (by omega) (by omega)).mono ?_
      rintro e w8 ⟨rfl, hg⟩
      have hown2 := HS1.out.1.kept hg (by simp [Value.ownBlock])
      have hl2 := hown2.1
      obtain ⟨y1, d1⟩ : ∃ y, w8.cell? ⟨g, j * 2 + 1, none⟩ = some y := by
        rw [hown2.cellAt (j * 2 + 1) (by omega)]
        exact ⟨_, List.getElem?_eq_getElem (by omega)⟩
      have f1 := hown2.frozenAt (j * 2 + 1)
      have hs2 := hown2.stored (j * 2 + 1) (.string ⟨(mt (2 + 2 * j)).toArray⟩)
      have hs3 := hs2.1
      have hne := HN.out
      rw [HAT.out] at hne
      dsimp only at hne
      rw [hne] at hs3
      have HW := Lib.hid (And.intro hs3 (grownBy_trans (grown_trans_none (grownBy_trans HR.out.1 HS1.out.2) hg) hs2.2))
      clear hg d0 f0 hown2 hl2 hs2 hs3 hne
      generalize mt (2 + 2 * j) = tx at *
      go_wp2_with fail
      go_roundw
      case rel => exact ⟨j + 1, hlt, by go_num, by first | (go_num; done) | (congr 1; omega), HW.out.2, HW.out.1⟩
      case measure => simp [intOf]; omega
    · obtain rfl : j = l.length := by omega
      rw [List.take_of_length_le (by rw [mkL_len]; omega), List.drop_eq_nil_of_le (by rw [pksV_len]; omega), List.append_nil] at hown
      have HW := Lib.hid (And.intro HR.out.1 hown)
      clear hown
      go_wp2_with fail
      go_ret
      exact ⟨rfl, HW.out.1, HW.out.2⟩

set_option maxRecDepth 100000 in
theorem mark_nil (w : World) : Calls Try.prog 14 #[.slice none 0 0, .int .i64 1] w fun e w' => e = .returned (.int .i64 1) ∧ w = w' := by
  go_enter Try.func14, Try.ntmps14
  go_wp2_with fail
  refine wp_loop_rounds 1 ?_
  rw [rounds_succ]
  go_wp2_with fail
  go_ret
  exact ⟨rfl, rfl⟩

def HdRel (w : World) (n : Nat) (k i : Value) (wr : World) : Prop :=
  ∃ j : Nat, j ≤ n ∧ i = .int .i64 j ∧ k = .int .i64 (1 + 2 * (j : Int)) ∧ w.grownBy wr none

set_option maxRecDepth 100000 in
set_option maxHeartbeats 1000000 in
theorem held_any (a : Option Addr) (c n : Nat) (w : World) (h : PkAt w a (mkL n)) (hn : n ≤ 100) : Calls Try.prog 15 #[.slice a n c, .int .i64 1] w fun e w' => e = .returned (.int .i64 (1 + 2 * (n : Int))) ∧ w.grownBy w' none := by
  have H := Lib.hid h
  clear h
  have hML : (mkL n).length = n := mkL_len n
  go_enter Try.func15, Try.ntmps15
  go_wp2_with fail
  go_loopw [1, 5] (fun k i wr => HdRel w n k i wr) (fun _ i _ => n - (intOf i).toNat)
  case atStart => exact ⟨0, Nat.zero_le _, rfl, rfl, World.grownBy.refl _ _⟩
  case round =>
    obtain ⟨j, hj, rfl, rfl, hg⟩ := hrel
    have HS := Lib.hid hg
    clear hg
    by_cases hlt : j < n
    · rcases (H.out.kept HS.out) with h0 | ⟨b, off, rfl, hb, hc⟩
      · rw [h0] at hML
        simp at hML
        omega
      · obtain ⟨c0, c1⟩ := hc j (by omega)
        rw [mkL_at n j (by omega)] at c0 c1
        dsimp only at c0 c1
        clear hc
        have hlt' : (j : Int) < (n : Int) := by omega
        have HTX := Lib.hid (mark_text2 (1 + 2 * (j : Int) + 1) (2 + 2 * j) · (by omega) (by omega) (by omega))
        generalize mt (2 + 2 * j) = tx at *
        have hj0 : (0 : Int) ≤ (j : Int) := by omega
        have z0 : wr.drew.cell? ⟨b, off + j * 2 + 1, none⟩ = some (.string ⟨tx.toArray⟩) := c1
        have z1 := grownBy_trans HS.out (grownBy_drew (r := none))
        go_wp2_with fail
        go_region_held3 (fun w' => w'.cell? ⟨b, off + j * 2 + 1, none⟩ = some (.string ⟨tx.toArray⟩) ∧ w.grownBy w' none) ((refine ⟨by first | assumption | (simp [*]; done), by assumption⟩))
          (first | (go_at_call 38; refine (HTX.out _).mono ?_; rintro e w9 ⟨rfl, hg⟩; have q0 := hg.cell (a := ⟨b, off + j * 2 + 1, none⟩) (v := .string ⟨tx.toArray⟩) (by first | assumption | (simp [*]; done)) (by simp); have q1 := grownBy_trans (a := w) (by assumption) hg))
        have HZ := Lib.hid (by assumption : w.grownBy w9 none)
        go_wp2_with fail
        go_roundw
        case rel => exact ⟨j + 1, hlt, by go_num, by first | (go_num; done) | (congr 1; omega), HZ.out⟩
        case measure => simp [intOf]; omega
    · obtain rfl : j = n := by omega
      go_wp2_with fail
      go_ret
      exact ⟨rfl, HS.out⟩

theorem mark_any (base : Nat) (ao : Option Addr) (cap : Nat) (l : List Pk) (w : World) (hl : l.length ≤ 100) (h : w.ownsRow base 43 2 (.slice ao l.length cap) l.length (pksV l)) :
    Calls Try.prog 14 #[.slice ao l.length cap, .int .i64 1] w fun e w' => e = .returned (.int .i64 (1 + 2 * (l.length : Int))) ∧ w.grownBy w' (Value.ownBlock (.slice ao l.length cap)) ∧ w'.ownsRow base 43 2 (.slice ao l.length cap) l.length (pksV (mkL l.length)) := by
  rcases h.2 with ⟨hv, h0⟩ | ⟨g, cap', cur, hv, _⟩
  · have e := List.length_eq_zero_iff.mp h0
    subst e
    simp at hv
    obtain ⟨rfl, rfl⟩ := hv
    refine (mark_nil w).mono ?_
    rintro e w' ⟨rfl, rfl⟩
    exact ⟨rfl, World.grownBy.refl _ _, World.ownsRow_nil _ _ _ _⟩
  · simp at hv
    obtain ⟨rfl, rfl⟩ := hv
    exact mark_some base g cap l w hl h

theorem pk_own {w : World} {base : Nat} {e : TypeId} {ao : Option Addr} {c : Nat} {l : List Pk} (h : w.ownsRow base e 2 (.slice ao l.length c) l.length (pksV l)) : PkAt w ao l := by
  rcases h.2 with ⟨_, h0⟩ | ⟨g, cap', cur, hv, _⟩
  · exact .inl (List.length_eq_zero_iff.mp h0)
  · simp at hv
    obtain ⟨rfl, rfl⟩ := hv
    exact pkAt_own h rfl
theorem pk_mark {w : World} {base : Nat} {e : TypeId} {ao : Option Addr} {c n : Nat} (h : w.ownsRow base e 2 (.slice ao n c) n (pksV (mkL n))) : PkAt w ao (mkL n) := by
  have hn := mkL_len n
  rcases h.2 with ⟨_, h0⟩ | ⟨g, cap', cur, hv, _⟩
  · exact .inl (List.length_eq_zero_iff.mp (by omega))
  · simp at hv
    obtain ⟨rfl, rfl⟩ := hv
    exact pkAt_own h hn.symm
theorem own_slice {w : World} {base : Nat} {e : TypeId} {v : Value} {n s : Nat} {xs : List Value} (h : w.ownsRow base e s v n xs) : ∃ ao c, v = .slice ao n c := by
  rcases h.2 with ⟨hv, h0⟩ | ⟨g, cap, cur, hv, _⟩
  · exact ⟨none, 0, by rw [hv, h0]⟩
  · exact ⟨_, _, hv⟩
theorem own_apart {w a : World} {B C : Nat} {e : TypeId} {u v : Value} {n m s : Nat} {xs ys : List Value} (h : w.ownsRow B e s u n xs) (k : a.ownsRow C e s v m ys) (hC : w.heap.size ≤ C) : u.ownBlock = none ∨ u.ownBlock ≠ v.ownBlock := by
  cases hu : u.ownBlock with
  | none => exact .inl rfl
  | some g =>
    refine .inr fun e => ?_
    have h1 := (h.lt g hu).2
    have h2 := (k.lt g e.symm).1
    omega
theorem grown_row_none {w a b : World} {C : Nat} {e : TypeId} {v : Value} {m s : Nat} {ys : List Value} (h : w.grownBy a none) (k : a.grownBy b v.ownBlock) (ho : a.ownsRow C e s v m ys) (hC : w.heap.size ≤ C) : w.grownBy b none := by
  cases hv : v.ownBlock with
  | none => rw [hv] at k; exact grownBy_trans h k
  | some g =>
    rw [hv] at k
    exact grownBy_new h k (Nat.le_trans hC (ho.lt g hv).1)


theorem grow_own {w a b : World} {C : Nat} {e : TypeId} {v : Value} {m s : Nat} {ys : List Value} (h : w.grownBy a none) (k : a.grownBy b v.ownBlock) (ho : a.ownsRow C e s v m ys) (hC : w.heap.size ≤ C) : w.grownBy b none := by
  cases hv : v.ownBlock with
  | none => rw [hv] at k; exact grownBy_trans h k
  | some g =>
    rw [hv] at k
    exact grownBy_new h k (Nat.le_trans hC (ho.lt g hv).1)

theorem own_kept {w w' : World} {B : Nat} {e : TypeId} {v : Value} {n s : Nat} {xs : List Value} (h : w.ownsRow B e s v n xs) (hg : w.grownBy w' none) : w'.ownsRow B e s v n xs := h.kept hg (by cases v.ownBlock <;> simp)

theorem own_base {w : World} {B B' : Nat} {e : TypeId} {v : Value} {n s : Nat} {xs : List Value} (h : w.ownsRow B e s v n xs) (hB : B' ≤ B) : w.ownsRow B' e s v n xs := by
  rcases h with ⟨h1, h2 | ⟨g, cap, cur, h3, h4, h5⟩⟩
  · exact ⟨h1, .inl h2⟩
  · exact ⟨h1, .inr ⟨g, cap, cur, h3, Nat.le_trans hB h4, h5⟩⟩

theorem own_apart2 {w a : World} {B C : Nat} {e e' : TypeId} {u v : Value} {n m s s' : Nat} {xs ys : List Value} (h : w.ownsRow B e s u n xs) (k : a.ownsRow C e' s' v m ys) (hC : w.heap.size ≤ C) : v.ownBlock = none ∨ v.ownBlock ≠ u.ownBlock := by
  cases hv : v.ownBlock with
  | none => exact .inl rfl
  | some g =>
    refine .inr fun e => ?_
    have h1 := (h.lt g e.symm).2
    have h2 := (k.lt g hv).1
    omega

theorem own_apart1 {w a : World} {B C : Nat} {e e' : TypeId} {u v : Value} {n m s s' : Nat} {xs ys : List Value} (h : w.ownsRow B e s u n xs) (k : a.ownsRow C e' s' v m ys) (hC : w.heap.size ≤ C) : u.ownBlock = none ∨ u.ownBlock ≠ v.ownBlock := by
  cases hu : u.ownBlock with
  | none => exact .inl rfl
  | some g =>
    refine .inr fun e => ?_
    have h1 := (h.lt g hu).2
    have h2 := (k.lt g e.symm).1
    omega

end Go.Proofs.Ytefpnbmjcailgaa
