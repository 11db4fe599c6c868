/- The laws' own marking of ranges, and whether the marks are held. -/
import Derived.Test.YtaigdimicnlfdaaPcHoS
namespace Go.Proofs.Ytaigdimicnlfdaa
open Go.RowKit

def mkR (n : Nat) : List Rg := (List.range n).map fun (i : Nat) => (1 + 2 * (i : Int), 2 + 2 * (i : Int))

theorem mkR_len (n : Nat) : (mkR n).length = n := by simp [mkR]

theorem mkR_at (n j : Nat) (h : j < (mkR n).length) : (mkR n)[j] = (1 + 2 * (j : Int), 2 + 2 * (j : Int)) := by simp [mkR]

theorem rg_own {w : World} {base : Nat} {e : TypeId} {ao : Option Addr} {c : Nat} {l : List Rg} (h : w.ownsRow base e 2 (.slice ao l.length c) l.length (rgsV l)) : RgAt w ao l := by
  rcases h.2 with ⟨_, h0⟩ | ⟨g, cap', cur, hv, _⟩
  · exact .inl (List.length_eq_zero_iff.mp h0)
  · simp at hv
    obtain ⟨rfl, rfl⟩ := hv
    exact rgAt_own h rfl

theorem rg_mark {w : World} {base : Nat} {e : TypeId} {ao : Option Addr} {c n : Nat} (h : w.ownsRow base e 2 (.slice ao n c) n (rgsV (mkR n))) : RgAt w ao (mkR n) := by
  have hn := mkR_len n
  rcases h.2 with ⟨_, h0⟩ | ⟨g, cap', cur, hv, _⟩
  · exact .inl (List.length_eq_zero_iff.mp (by omega))
  · simp at hv
    obtain ⟨rfl, rfl⟩ := hv
    exact rgAt_own h hn.symm

theorem holesF_len (t : Int) : ∀ (l : List Pk) (a : Int), (holesF l a t).length ≤ l.length + 1
  | [], a => by have := hole_len a t; simpa [holesF] using this
  | p :: l, a => by
    have h1 := hole_len a (min p.1 t)
    have h2 := holesF_len t l (p.1 + (p.2.length : Int))
    rw [holesF, List.length_append, List.length_cons]
    omega

theorem holesL_len (l : List Pk) (t : Int) : (holesL l t).length ≤ 61 := by
  unfold holesL
  split
  · rename_i h
    have := (pcs_of h.1).1
    have := holesF_len t l 0
    omega
  · simp

end Go.Proofs.Ytaigdimicnlfdaa
