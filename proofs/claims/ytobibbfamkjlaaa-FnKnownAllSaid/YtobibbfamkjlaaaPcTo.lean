/- A copy of a row of pieces, with its memory's own. -/
import Derived.Test.YtobibbfamkjlaaaRgMark
namespace Go.Proofs.Ytobibbfamkjlaaa
open Go.RowKit

def ToOwn (w : World) (l : List Pk) (e : Ending) (w' : World) : Prop :=
  ∃ g : Nat, e = .returned (.slice (some ⟨g, 0, none⟩) l.length l.length) ∧ w.grownBy w' none ∧ w'.ownsRow w.heap.size 38 2 (.slice (some ⟨g, 0, none⟩) l.length l.length) l.length (pksV l)
theorem own_apart2 {w a : World} {B C : Nat} {e e' : TypeId} {u v : Value} {n m s s' : Nat} {xs ys : List Value} (h : w.ownsRow B e s u n xs) (k : a.ownsRow C e' s' v m ys) (hC : w.heap.size ≤ C) : v.ownBlock = none ∨ v.ownBlock ≠ u.ownBlock := by
  cases hv : v.ownBlock with
  | none => exact .inl rfl
  | some g =>
    refine .inr fun e => ?_
    have h1 := (h.lt g e.symm).2
    have h2 := (k.lt g hv).1
    omega
theorem own_apart1 {w a : World} {B C : Nat} {e e' : TypeId} {u v : Value} {n m s s' : Nat} {xs ys : List Value} (h : w.ownsRow B e s u n xs) (k : a.ownsRow C e' s' v m ys) (hC : w.heap.size ≤ C) : u.ownBlock = none ∨ u.ownBlock ≠ v.ownBlock := by
  cases hu : u.ownBlock with
  | none => exact .inl rfl
  | some g =>
    refine .inr fun e => ?_
    have h1 := (h.lt g hu).2
    have h2 := (k.lt g e.symm).1
    omega

set_option maxRecDepth 100000 in
set_option maxHeartbeats 1000000 in
theorem to_owned (a : Option Addr) (c : Nat) (l : List Pk) (w : World) (h : PkAt w a l) (hl : l.length ≤ 1048576) : Calls Try.prog 20 #[.slice a l.length c] w (ToOwn w l) := by
  obtain ⟨i0, hi, hz0, hz1, hz2⟩ := info_of infoPk
  have H := Lib.hid h
  clear h
  go_enter Try.func20, Try.ntmps20
  go_wp2_with (at_make; refine wpList_make_full _ rfl _ _ 24 rfl w.heap.size 38 i0 _ 2 Try.underlying24 hi hz0 hz1 _ _ _ _ l.length rfl rfl rfl rfl ?c1 ?c2 ?c3 ?_)
  case c1 => rw [hz2]; omega
  case c2 => unfold maxLen; omega
  case c3 => exact Nat.le_refl _
  intro w1 hown hg
  have HS := Lib.hid (And.intro hown hg)
  clear hown hg
  go_wp2_with fail
  go_loopw [4] (fun i wr => ToRel w l (madeCells #[.int .i64 0, .string ⟨#[]⟩] (l.length * 2)).toList i wr) (fun i _ => l.length - (intOf i).toNat)
  case atStart => exact ⟨0, Nat.zero_le _, rfl, HS.out.2, by simpa [pksV] using HS.out.1⟩
  case round =>
    obtain ⟨j, hj, rfl, hg, hown⟩ := hrel
    have HR := Lib.hid (And.intro hg hown)
    clear hg hown
    by_cases hlt : j < l.length
    · rcases (H.out.kept HR.out.1) with h0 | ⟨b, off, rfl, hb, hc⟩
      · rw [h0] at hlt
        simp at hlt
      · obtain ⟨c0, c1⟩ := hc j hlt
        clear hc
        have HN := Lib.hid (pks_set l _ j hlt (by simp [size_madeCells] : (madeCells #[.int .i64 0, .string ⟨#[]⟩] (l.length * 2)).toList.length = l.length * 2))
        generalize l[j] = x at *
        obtain ⟨t, m⟩ := x
        have hlt' : (j : Int) < (l.length : Int) := by omega
        go_wp2_with fail
        refine (to_packet t m _).mono ?_
        rintro e w8 ⟨rfl, hg⟩
        have hown := HR.out.2.kept hg (by simp [Value.ownBlock])
        have hl2 : (pksV (l.take j) ++ (madeCells #[.int .i64 0, .string ⟨#[]⟩] (l.length * 2)).toList.drop (j * 2)).length = l.length * 2 := hown.1
        obtain ⟨y0, d0⟩ : ∃ y, w8.cell? ⟨w.heap.size, j * 2, none⟩ = some y := by
          rw [hown.cellAt (j * 2) (by omega)]
          exact ⟨_, List.getElem?_eq_getElem (by rw [hl2]; omega)⟩
        obtain ⟨y1, d1⟩ : ∃ y, w8.cell? ⟨w.heap.size, j * 2 + 1, none⟩ = some y := by
          rw [hown.cellAt (j * 2 + 1) (by omega)]
          exact ⟨_, List.getElem?_eq_getElem (by rw [hl2]; omega)⟩
        have f0 := hown.frozenAt (j * 2)
        have f1 := hown.frozenAt (j * 2 + 1)
        have hs1 := hown.stored (j * 2) (.int .i64 t)
        have f2 := hs1.1.frozenAt (j * 2 + 1)
        obtain ⟨y, d2⟩ : ∃ y, (w8.setCell ⟨w.heap.size, j * 2, none⟩ (.int .i64 t)).cell? ⟨w.heap.size, j * 2 + 1, none⟩ = some y := by
          rw [hs1.1.cellAt (j * 2 + 1) (by omega)]
          exact ⟨_, List.getElem?_eq_getElem (by rw [List.length_set, hl2]; omega)⟩
        have hs2 := hs1.1.stored (j * 2 + 1) (.string ⟨m.toArray⟩)
        have hs3 := hs2.1
        have hne := HN.out
        try dsimp only at hne
        rw [hne] at hs3
        have HW := Lib.hid (And.intro hs3 (grownBy_new (grownBy_trans HR.out.1 hg) (grownBy_trans hs1.2 hs2.2) (Nat.le_refl _)))
        clear hg c0 c1 hown hl2 hs1 hs2 hs3 hne
        go_wp2_with fail
        go_roundw
        case rel => exact ⟨j + 1, hlt, by go_num, HW.out.2, HW.out.1⟩
        case measure => simp [intOf]; omega
    · obtain rfl : j = l.length := by omega
      have hown := HR.out.2
      rw [List.take_length, List.drop_eq_nil_of_le (by simp [size_madeCells]), List.append_nil] at hown
      have HW := Lib.hid hown
      clear hown
      go_wp2_with fail
      go_ret
      exact ⟨_, rfl, HR.out.1, HW.out⟩

end Go.Proofs.Ytobibbfamkjlaaa
