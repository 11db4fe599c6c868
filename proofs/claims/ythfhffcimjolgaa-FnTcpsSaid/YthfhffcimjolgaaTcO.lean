/- What is read, as values with no case; both readings are one. -/
import Derived.Test.YthfhffcimjolgaaTcK
namespace Go.Proofs.Ythfhffcimjolgaa
open Go.RowKit

def xI (R : Option (List Rg)) (v : Int) : Int := if R.isSome then v else 0
def xD (R : Option (List Rg)) (d : List UInt8) : List UInt8 := if R.isSome then d else []
theorem tr_val {w : World} {s : List UInt8} {g : Int} {R : Option (List Rg)} {e : Ending} {w' : World} (h : TrPost w s g R e w') : ∃ p c, e = .returned (.tuple #[tcpV (xI R (fF s)) (xI R (fO s)) (xI R (fS s)) (xI R (fK s)) (xI R g) (xI R (fN s)) p c (R.getD []) (xD R (s.drop (hdL s))), .bool R.isSome]) ∧ RgAt w' p (R.getD []) ∧ w.grownBy w' none := by
  cases R with
  | none => exact ⟨none, 0, h.1, .inl rfl, h.2⟩
  | some l =>
    obtain ⟨p, c, h1, h2, h3⟩ := h
    exact ⟨p, c, h1, h2, h3⟩
theorem rd_hg {a b g : Int} {s : List UInt8} {l : List Rg} (h : rdT a b g s = some l) : rdH a b s ∧ rdS s = some l ∧ rdG g s l := by
  unfold rdT at h
  split at h
  · rename_i hh
    split at h
    · rename_i l2 hl
      split at h
      · rename_i hg
        cases h
        exact ⟨hh, hl, hg⟩
      · cases h
    · cases h
  · cases h
/-- Where the flags are below 64 both readings are one. -/
theorem rd_same {a b : Int} {u : List UInt8} (h : segSum a b u = 0 → 20 ≤ u.length → 0 ≤ fG u ∧ fG u ≤ 63) : rdT a b (fG u % 64) u = rdT a b (fG u) u ∧ xI (rdT a b (fG u) u) (fG u % 64) = xI (rdT a b (fG u) u) (fG u) := by
  by_cases hh : rdH a b u
  · have e := h hh.2.1 hh.2.2.1
    rw [Int.emod_eq_of_lt e.1 (by omega)]
    exact ⟨rfl, rfl⟩
  · rw [rd_no hh, rd_no hh]
    exact ⟨rfl, rfl⟩
theorem tr_ok {a b : Int} {u : List UInt8} (h : (rdT a b (fG u) u).isSome = true) : tcpOk (xI (rdT a b (fG u) u) (fF u)) (xI (rdT a b (fG u) u) (fO u)) (xI (rdT a b (fG u) u) (fS u)) (xI (rdT a b (fG u) u) (fK u)) (xI (rdT a b (fG u) u) (fG u)) (xI (rdT a b (fG u) u) (fN u)) ((rdT a b (fG u) u).getD []) (xD (rdT a b (fG u) u) (u.drop (hdL u))) := by
  cases hR : rdT a b (fG u) u with
  | none => rw [hR] at h; cases h
  | some l => exact (rd_hg hR).2.2
theorem rd_len {a b g : Int} {u : List UInt8} : ((rdT a b g u).getD []).length ≤ 3 := by
  cases hR : rdT a b g u with
  | none => simp
  | some l => exact (rd_hg hR).2.2.2.1

end Go.Proofs.Ythfhffcimjolgaa
