/- What the exact laws of boards ask besides: boxes and rows beside a row that is marked. -/
import Derived.Test.YtedgfiagefhahaaBdT
namespace Go.Proofs.Ytedgfiagefhahaa
open Go.RowKit

def BdFour (w : World) (U N : Int) (L : List Rg) (D : Bool) (e : Ending) (w' : World) : Prop :=
  ∃ a c, e = .returned (.tuple #[bdV U N a L.length c, .bool D]) ∧ w.grownBy w' none ∧ OwnRg w' w.heap.size a c L
theorem bd_four {w w' : World} {r : Int × Int × List Rg × Bool} {U N : Int} {L : List Rg} {D : Bool} {e : Ending} (hr : r = (U, N, L, D)) (h : BdPost w r e w') : BdFour w U N L D e w' := by
  subst hr
  exact h
theorem Mine.app {w a : World} {cs ds : List (Addr × Value)} (h : Mine w cs a) (k : Mine w ds a) : Mine w (cs ++ ds) a :=
  ⟨h.grown, fun x hx => (List.mem_append.mp hx).elim (h.all x) (k.all x)⟩
theorem mark_mine {w a wm b : World} {cs : List (Addr × Value)} {v : Value} (h : Mine w cs a) (hm : a.grownBy wm none) (hg : wm.grownBy b v.ownBlock) (hv : ∀ g, v.ownBlock = some g → w.heap.size ≤ g ∧ ∀ x ∈ cs, x.1.block ≠ g) : Mine w cs b := by
  have h1 := h.kept hm
  refine h1.keptR hg ?_ (fun g e x hx => (hv g e).2 x hx)
  cases hv' : v.ownBlock with
  | none => rw [hv'] at hg; exact grownBy_trans h1.grown hg
  | some g => rw [hv'] at hg; exact grownBy_new h1.grown hg (hv g hv').1
theorem mark_own {a wm b : World} {B c : Nat} {a' : Option Addr} {l : List Rg} {v : Value} (h : OwnRg a B a' c l) (hm : a.grownBy wm none) (hg : wm.grownBy b v.ownBlock) (hne : ∀ g, v.ownBlock = some g → ∀ g', Value.ownBlock (.slice a' l.length c) = some g' → g' ≠ g) : OwnRg b B a' c l := by
  refine (own_kept h hm).kept hg ?_
  cases hu : Value.ownBlock (.slice a' l.length c) with
  | none => exact .inl rfl
  | some g' => exact .inr fun e => hne g' e.symm g' hu rfl
theorem bd_far {B g : Nat} {x y z : Value} (h : B ≠ g) : ∀ p ∈ bdCells B x y z, p.1.block ≠ g := by
  intro p hp
  simp only [bdCells, List.mem_cons, List.not_mem_nil, or_false] at hp
  rcases hp with rfl | rfl | rfl <;> exact h
theorem four_far {A B C E g : Nat} {x y z x' y' z' u v t u' v' t' : Value} (h1 : A ≠ g) (h2 : B ≠ g) (h3 : C ≠ g) (h4 : E ≠ g) : ∀ p ∈ bdCells A x y z ++ bdCells B x' y' z' ++ bdCells C u v t ++ bdCells E u' v' t', p.1.block ≠ g := by
  intro p hp
  rcases List.mem_append.mp hp with hp | hp
  · rcases List.mem_append.mp hp with hp | hp
    · rcases List.mem_append.mp hp with hp | hp
      · exact bd_far h1 p hp
      · exact bd_far h2 p hp
    · exact bd_far h3 p hp
  · exact bd_far h4 p hp
theorem sentL_len (u n : Int) (l : List Rg) (k : Int) : (sentL u n l k).2.2.1.length ≤ 40 := by
  unfold sentL
  split
  · rename_i h
    exact (bd_of h.1).2.2.2.1
  · simp

end Go.Proofs.Ytedgfiagefhahaa
