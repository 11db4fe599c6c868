/- The drawing of a text that is read as a block: some text of at most forty bytes, and an order. -/
import Derived.Test.YtecgioikhinheaaHurt
namespace Go.Proofs.Ytecgioikhinheaa
open Go.RowKit

def DrawRPost (w : World) (most : Nat) (e : Ending) (w' : World) : Prop :=
  ∃ (t : List UInt8) (b : Bool), t.length ≤ most ∧ e = .returned (.tuple #[.string ⟨t.toArray⟩, .bool b]) ∧ w.grownBy w' none

theorem blockL_len (k : Int) (l : List UInt8) (big : Bool) : (blockL k l big).length ≤ l.length + 18 := by
  unfold blockL
  split
  · have a := numL_len k 4 big
    have b := numL_len (l.length + 12) 4 big
    unfold blockT
    simp only [List.length_append]
    omega
  · simp

set_option maxRecDepth 100000 in
set_option maxHeartbeats 1000000 in
theorem draw_rblock (a : Option Addr) (n c : Nat) (w : World) (h : CodeIn w a n) : Calls Try.prog 13 #[.slice a n c] w (DrawRPost w 40) := by
  have HA := Lib.hid h
  clear h
  go_enter Try.func13, Try.ntmps13
  go_wp2_with fail
  refine (open_any _ _ _ _ HA.out).mono ?_
  rintro e w1 ⟨rfl, hg, hr⟩
  have H1 := Lib.hid (And.intro hr hg)
  clear hg hr
  go_wp2_with fail
  refine (block_draw _ _ H1.out.1).mono ?_
  rintro e w2 ⟨k, l, hk, hl, rfl, hg, hr⟩
  have hlt := hr.lt
  have hT := two_new w2 (.int .i64 k) (.string ⟨l.toArray⟩) 25
  have hA2 : w2.grownBy (w2.alloc (.cells #[.int .i64 k, .string ⟨l.toArray⟩] 25)) none := World.grownBy_alloc _ _ _
  have hR := hr.alloc (.cells #[.int .i64 k, .string ⟨l.toArray⟩] 25)
  have hG := grownBy_trans (grownBy_new H1.out.2 hg (Nat.le_refl _)) hA2
  clear hg hr hk hA2
  go_wp2_with fail
  generalize w2.alloc (.cells #[.int .i64 k, .string ⟨l.toArray⟩] 25) = w3 at *
  refine (once_any _ _ _ hR (by omega) (by omega)).mono ?_
  rintro e w4 ⟨big, rfl, hg, hr⟩
  have hT4 := hT.kept hg (by simp; omega)
  have c0 := hT4.a
  have c1 := hT4.b
  have H4 := Lib.hid (And.intro hr (grownBy_new hG hg (Nat.le_refl _)))
  clear hg hr hT hT4 hR hG
  go_wp2_with fail
  refine (block_spec k l big _ (by omega)).mono ?_
  rintro e w5 ⟨rfl, hg⟩
  have hs : (blockL k l big).length ≤ 30 := by have := blockL_len k l big; omega
  generalize blockL k l big = s at *
  have H5 := Lib.hid (And.intro (H4.out.1.kept hg (by simp) (by simp)) (grownBy_trans H4.out.2 hg))
  clear hg c0 c1
  go_wp2_with fail
  refine (once_any _ _ _ H5.out.1 (by omega) (by omega)).mono ?_
  rintro e w6 ⟨v, rfl, hg, hr⟩
  have H6 := Lib.hid (And.intro hr (grownBy_new H5.out.2 hg (Nat.le_refl _)))
  clear hg hr
  cases v
  · go_wp2_with fail
    refine (bytes_any _ 3 _ H6.out.1 (by omega)).mono ?_
    rintro e w7 ⟨m, hm, rfl, hg, hr⟩
    have H7 := Lib.hid (grownBy_new H6.out.2 hg (Nat.le_refl _))
    clear hg hr
    have hk1 : ¬ 9223372036854775807 < s.length + m.length := by omega
    go_wp2_with fail
    exact bodyPost_ret (v := .tuple #[.string (⟨s.toArray⟩ ++ ⟨m.toArray⟩), .bool big]) (by simp [results, Try.results13, go_sem]) rfl ⟨s ++ m, big, by simp; omega, by rw [ba_append], H7.out⟩
  · go_wp2_with fail
    refine (hurt_any _ s _ H6.out.1 (by omega)).mono ?_
    rintro e w7 ⟨m, hm, rfl, hg, hr⟩
    have H7 := Lib.hid (grownBy_new H6.out.2 hg (Nat.le_refl _))
    clear hg hr
    go_wp2_with fail
    exact bodyPost_ret (v := .tuple #[.string ⟨m.toArray⟩, .bool big]) (by simp [results, Try.results13, go_sem]) rfl ⟨m, big, by omega, rfl, H7.out⟩

end Go.Proofs.Ytecgioikhinheaa
