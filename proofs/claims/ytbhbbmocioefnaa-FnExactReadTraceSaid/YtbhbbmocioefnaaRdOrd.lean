/- The program's own telling of a trace's order. -/
import Derived.Test.YtbhbbmocioefnaaRdT
namespace Go.Proofs.Ytbhbbmocioefnaa
open Go.RowKit

theorem mark_len (s : List UInt8) (h : 28 ≤ s.length) : (markOf s).length = 4 := by unfold markOf; simp; omega
theorem mark_big (m : List UInt8) (h : m.length = 4) : numOf m true = 439041101 ↔ m = putL 439041101 4 := by
  constructor
  · intro e
    have := (numOf_four m true h).1
    rw [e] at this
    exact this.symm
  · rintro rfl
    exact get_put 439041101 4 (put_four (by omega) (by omega))
theorem mark_little (m : List UInt8) (h : m.length = 4) : numOf m false = 439041101 ↔ m = (putL 439041101 4).reverse := by
  constructor
  · intro e
    have := (numOf_four m false h).1
    rw [e] at this
    exact this.symm
  · rintro rfl
    show getBe (putL 439041101 4).reverse.reverse = _
    rw [List.reverse_reverse]
    exact get_put 439041101 4 (put_four (by omega) (by omega))
def OrdPost (w : World) (b c : Bool) (e : Ending) (w' : World) : Prop := e = .returned (.tuple #[.bool b, .bool c]) ∧ w.grownBy w' none

set_option maxRecDepth 100000 in
theorem order_short (s : List UInt8) (w : World) (h : ¬ (28 ≤ s.length ∧ s.length ≤ 40000)) : Calls Try.prog 32 #[.string ⟨s.toArray⟩] w (OrdPost w false false) := by
  by_cases h28 : 28 ≤ (s.length : Int)
  · have h4 : ¬ (s.length : Int) ≤ 40000 := by omega
    go_enter Try.func32, Try.ntmps32
    go_wp2_with fail
    exact bodyPost_ret (v := .tuple #[.bool false, .bool false]) (by simp [results, Try.results32, go_sem]) rfl ⟨rfl, World.grownBy.refl _ _⟩
  · go_enter Try.func32, Try.ntmps32
    go_wp2_with fail
    exact bodyPost_ret (v := .tuple #[.bool false, .bool false]) (by simp [results, Try.results32, go_sem]) rfl ⟨rfl, World.grownBy.refl _ _⟩

set_option maxRecDepth 100000 in
theorem order_any (s : List UInt8) (w : World) (h : 28 ≤ s.length ∧ s.length ≤ 40000) : Calls Try.prog 32 #[.string ⟨s.toArray⟩] w (OrdPost w (decide (numOf (markOf s) true = 439041101)) (decide (numOf (markOf s) true = 439041101 ∨ numOf (markOf s) false = 439041101))) := by
  have hi : 28 ≤ (s.length : Int) := by omega
  have hi2 : (s.length : Int) ≤ 40000 := by omega
  have hi3 : 12 ≤ (s.length : Int) := by omega
  have hm := mark_len s h.1
  have hx : (⟨s.toArray⟩ : ByteArray).extract 8 12 = ⟨(markOf s).toArray⟩ := extract_mid s 8 12 (by omega)
  generalize markOf s = m at *
  have HB := Lib.hid (mark_big m hm)
  have HL := Lib.hid (mark_little m hm)
  by_cases h1 : numOf m true = 439041101
  · have e1 : m = putL 439041101 4 := HB.out.mp h1
    have HE := Lib.hid e1.symm
    have HD := Lib.hid (And.intro (decide_eq_true h1) (decide_eq_true (show numOf m true = 439041101 ∨ numOf m false = 439041101 from .inl h1)))
    clear e1 h1
    go_enter Try.func32, Try.ntmps32
    go_wp2_with fail
    refine (put_be_impl 439041101 4 _).mono ?_
    rintro e w1 ⟨rfl, hg⟩
    rw [HE.out]
    have HG := Lib.hid hg
    clear hg
    go_wp2_with fail
    exact bodyPost_ret (v := .tuple #[.bool true, .bool true]) (by simp [results, Try.results32, go_sem]) rfl ⟨by rw [HD.out.1, HD.out.2], HG.out⟩
  · have e1 : m ≠ putL 439041101 4 := fun e => h1 (HB.out.mpr e)
    have HE : (m == putL 439041101 4) = false := beq_eq_false_iff_ne.mpr e1
    by_cases h2 : numOf m false = 439041101
    · have HR := Lib.hid (HL.out.mp h2).symm
      have HD := Lib.hid (And.intro (decide_eq_false h1) (decide_eq_true (show numOf m true = 439041101 ∨ numOf m false = 439041101 from .inr h2)))
      clear e1 h1 h2
      go_enter Try.func32, Try.ntmps32
      go_wp2_with fail
      refine (put_be_impl 439041101 4 _).mono ?_
      rintro e w1 ⟨rfl, hg⟩
      have HG := Lib.hid hg
      clear hg
      go_wp2_with fail
      refine (put_le_impl 439041101 4 _).mono ?_
      rintro e w2 ⟨rfl, hg⟩
      rw [HR.out]
      have HG2 := Lib.hid (grownBy_trans HG.out hg)
      clear hg
      go_wp2_with fail
      exact bodyPost_ret (v := .tuple #[.bool false, .bool true]) (by simp [results, Try.results32, go_sem]) rfl ⟨by rw [HD.out.1, HD.out.2], HG2.out⟩
    · have HR : (m == (putL 439041101 4).reverse) = false := beq_eq_false_iff_ne.mpr (fun e => h2 (HL.out.mpr e))
      have HD := Lib.hid (And.intro (decide_eq_false h1) (decide_eq_false (show ¬ (numOf m true = 439041101 ∨ numOf m false = 439041101) from fun hh => hh.elim h1 h2)))
      clear e1 h1 h2
      go_enter Try.func32, Try.ntmps32
      go_wp2_with fail
      refine (put_be_impl 439041101 4 _).mono ?_
      rintro e w1 ⟨rfl, hg⟩
      have HG := Lib.hid hg
      clear hg
      go_wp2_with fail
      refine (put_le_impl 439041101 4 _).mono ?_
      rintro e w2 ⟨rfl, hg⟩
      have HG2 := Lib.hid (grownBy_trans HG.out hg)
      clear hg
      go_wp2_with fail
      exact bodyPost_ret (v := .tuple #[.bool false, .bool false]) (by simp [results, Try.results32, go_sem]) rfl ⟨by rw [HD.out.1, HD.out.2], HG2.out⟩

end Go.Proofs.Ytbhbbmocioefnaa
