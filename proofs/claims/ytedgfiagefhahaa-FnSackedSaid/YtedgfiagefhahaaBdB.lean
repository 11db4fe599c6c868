/- Boards: boxes of boards and their rows. -/
import Derived.Test.YtedgfiagefhahaaBdV
import Derived.Test.YtedgfiagefhahaaBdH
namespace Go.Proofs.Ytedgfiagefhahaa
open Go.RowKit

def BB (W : World) (B : Nat) (u n : Int) (a : Option Addr) (c : Nat) (l : List Rg) : Prop := Bx W B 26 #[.int .i64 u, .int .i64 n, .slice a l.length c] ∧ RgAt W a l
theorem BB.bx {W : World} {B : Nat} {u n : Int} {a : Option Addr} {c : Nat} {l : List Rg} (h : BB W B u n a c l) : Bx W B 26 #[.int .i64 u, .int .i64 n, .slice a l.length c] := h.1
theorem BB.rg {W : World} {B : Nat} {u n : Int} {a : Option Addr} {c : Nat} {l : List Rg} (h : BB W B u n a c l) : RgAt W a l := h.2
theorem BB.keep {W W2 : World} {B : Nat} {u n : Int} {a : Option Addr} {c : Nat} {l : List Rg} (h : BB W B u n a c l) (hg : W.grownBy W2 none) : BB W2 B u n a c l := ⟨h.1.keep hg, h.2.kept hg⟩
theorem BB.new (V : World) {u n : Int} {a : Option Addr} {c : Nat} {l : List Rg} (h : RgAt V a l) : BB (V.alloc (.cells #[.int .i64 u, .int .i64 n, .slice a l.length c] 26)) V.heap.size u n a c l := ⟨Bx.new _ _ _, h.kept (World.grownBy_alloc _ _ _)⟩
theorem sent_len {u n k U N : Int} {l L : List Rg} {D : Bool} (h : sentL u n l k = (U, N, L, D)) : L.length ≤ 1048576 := by
  have h1 := sentL_len u n l k
  rw [h] at h1
  dsimp only at h1
  omega
theorem ack_len {u n k U N : Int} {l L : List Rg} {D : Bool} (h : ackL u n l k = (U, N, L, D)) : L.length ≤ 1048576 := by
  have h1 := ackL_len u n l k
  rw [h] at h1
  dsimp only at h1
  omega

end Go.Proofs.Ytedgfiagefhahaa
