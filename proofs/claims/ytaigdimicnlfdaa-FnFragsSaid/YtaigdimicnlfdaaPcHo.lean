/- The holes between pieces: the program's and the model's. -/
import Derived.Test.YtaigdimicnlfdaaPcKn
import Derived.Test.YtaigdimicnlfdaaRg7
namespace Go.Proofs.Ytaigdimicnlfdaa
open Go.RowKit

theorem pair_new (w : World) (x y : Value) (T : TypeId) (b : Nat) (hb : b = w.heap.size) : ∀ j u, [x, y][j]? = some u → (w.alloc (.cells #[x, y] T)).cell? ((⟨b, 0, none⟩ : Addr).add j) = some u := by
  subst hb
  intro j u hj
  match j, hj with
  | 0, hj => simp at hj; subst hj; simp [Addr.add]
  | 1, hj => simp at hj; subst hj; simp [Addr.add]

theorem grow_own {w a b : World} {C : Nat} {e : TypeId} {v : Value} {m s : Nat} {ys : List Value} (h : w.grownBy a none) (k : a.grownBy b v.ownBlock) (ho : a.ownsRow C e s v m ys) (hC : w.heap.size ≤ C) : w.grownBy b none := by
  cases hv : v.ownBlock with
  | none => rw [hv] at k; exact grownBy_trans h k
  | some g =>
    rw [hv] at k
    exact grownBy_new h k (Nat.le_trans hC (ho.lt g hv).1)

theorem own_kept {w w' : World} {B : Nat} {e : TypeId} {v : Value} {n s : Nat} {xs : List Value} (h : w.ownsRow B e s v n xs) (hg : w.grownBy w' none) : w'.ownsRow B e s v n xs := h.kept hg (by cases v.ownBlock <;> simp)

def hole (a b : Int) : List Rg := if a < b then [(a, b)] else []

def holesF : List Pk → Int → Int → List Rg
  | [], a, t => hole a t
  | p :: l, a, t => hole a (min p.1 t) ++ holesF l (p.1 + (p.2.length : Int)) t

noncomputable def holesL (l : List Pk) (t : Int) : List Rg := if pcsOk l = true ∧ 0 ≤ t ∧ t ≤ 20000 then holesF l 0 t else []

theorem rgsV_snoc (hs : List Rg) (a b : Int) : rgsV (hs ++ [(a, b)]) = rgsV hs ++ [.int .i64 a, .int .i64 b] := by simp [rgsV, rgV]

theorem hole_len (a b : Int) : (hole a b).length ≤ 1 := by unfold hole; split <;> simp

end Go.Proofs.Ytaigdimicnlfdaa
