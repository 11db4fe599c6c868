/-
  No cell of these rows narrows 'for every input' (looked for: loops, veiled, ifaces, maps, wideKeys, modest, calm, conditions, laid).
  DERIVED. THE GIVEN ROWS OF THIS SEAT. 3 by the template 'for every input the law returns true; each argument reads behind the call as it read before'; 0 by the template 'total and deterministic' (their statements: YtldcbiahicmgnaaTotals.lean).
  GIVEN WITH THE SEED: the statements are not yours to turn. If you find one false, say at which input.
  Laid BY PROGRAM, IN A SANDBOX (cutbox-rows.mjs): the forced cells as the released guide's own fill.sh prints them over the translation cb7679e3fbab375f… (all of the seat's roots in one cut). By AI agents, Wed Nov 11 2026. No macro, syntax, notation, axiom, sorry.
-/
import Derived.Test.YtldcbiahicmgnaaChecked
import GoSem.Claim
import GoSem.ClaimJoined
import GoSem.ClaimMapViews
import Derived.JoinedTies
import Derived.KernelRfl
namespace Go.Proofs.Ytldcbiahicmgnaa
/- THE CELL 'sum', in the pinned program and in every row, IS THE sha256 OF THE DUMP (.gsa) THAT YtldcbiahicmgnaaProg.lean LOADS. Nothing in Lean hashes anything: it is a label: what it is worth is what the hold of that sum in a sandbox is worth. -/
noncomputable def Try.pinned : Pinned := { name := "ytldcbiahicmgnaa", sum := "cb7679e3fbab375fdffa476b2ad46273d5fc8dec011112a1c2f1b70d0690d1ab", checked := Try.checked }
namespace Rows
def none {H : Type} : Left H := { results := [], args := [] }

/-- 'laws.FnExactGoodput': WHATEVER THE INPUT: true; the input reads as it did. -/
def fnExactGoodputSpec : ChangeSpec := { name := "fnExactGoodput", fn := fun _ => fun
  | [d] => { results := [.lit (.bool true)], args := [d] }
  | _ => none }
def fnExactGoodputRow : OpenClaim := { program := "ytldcbiahicmgnaa", sum := "cb7679e3fbab375fdffa476b2ad46273d5fc8dec011112a1c2f1b70d0690d1ab", func := "loop.example/g00559/laws.FnExactGoodput", spec := "fnExactGoodput", apart := false }
def FnExactGoodputSaid : Prop := fnExactGoodputRow.holds Try.pinned (OpenSpec.ofChange fnExactGoodputSpec)

/-- ITS FALSE NEIGHBOUR: 'it returns false'. Refute it at one input. -/
def fnExactGoodputWrong : ChangeSpec := { name := "fnExactGoodput", fn := fun _ => fun
  | [d] => { results := [.lit (.bool false)], args := [d] }
  | _ => none }
def FnExactGoodputWrongFalsely : Prop := fnExactGoodputRow.holds Try.pinned (OpenSpec.ofChange fnExactGoodputWrong)

/-- 'laws.FnExactAgain': WHATEVER THE INPUT: true; the input reads as it did. -/
def fnExactAgainSpec : ChangeSpec := { name := "fnExactAgain", fn := fun _ => fun
  | [d] => { results := [.lit (.bool true)], args := [d] }
  | _ => none }
def fnExactAgainRow : OpenClaim := { program := "ytldcbiahicmgnaa", sum := "cb7679e3fbab375fdffa476b2ad46273d5fc8dec011112a1c2f1b70d0690d1ab", func := "loop.example/g00559/laws.FnExactAgain", spec := "fnExactAgain", apart := false }
def FnExactAgainSaid : Prop := fnExactAgainRow.holds Try.pinned (OpenSpec.ofChange fnExactAgainSpec)

/-- ITS FALSE NEIGHBOUR: 'it returns false'. Refute it at one input. -/
def fnExactAgainWrong : ChangeSpec := { name := "fnExactAgain", fn := fun _ => fun
  | [d] => { results := [.lit (.bool false)], args := [d] }
  | _ => none }
def FnExactAgainWrongFalsely : Prop := fnExactAgainRow.holds Try.pinned (OpenSpec.ofChange fnExactAgainWrong)

/-- 'laws.FnGoodputUp': WHATEVER THE INPUT: true; the input reads as it did. -/
def fnGoodputUpSpec : ChangeSpec := { name := "fnGoodputUp", fn := fun _ => fun
  | [d] => { results := [.lit (.bool true)], args := [d] }
  | _ => none }
def fnGoodputUpRow : OpenClaim := { program := "ytldcbiahicmgnaa", sum := "cb7679e3fbab375fdffa476b2ad46273d5fc8dec011112a1c2f1b70d0690d1ab", func := "loop.example/g00559/laws.FnGoodputUp", spec := "fnGoodputUp", apart := false }
def FnGoodputUpSaid : Prop := fnGoodputUpRow.holds Try.pinned (OpenSpec.ofChange fnGoodputUpSpec)

/-- ITS FALSE NEIGHBOUR: 'it returns false'. Refute it at one input. -/
def fnGoodputUpWrong : ChangeSpec := { name := "fnGoodputUp", fn := fun _ => fun
  | [d] => { results := [.lit (.bool false)], args := [d] }
  | _ => none }
def FnGoodputUpWrongFalsely : Prop := fnGoodputUpRow.holds Try.pinned (OpenSpec.ofChange fnGoodputUpWrong)

/- THE SECOND FORM. 'bulk': how many values and letters a reading holds, each counted each time it is reached (what is shared counts as often as it is met; a slice's spare places count too). A statement '..UptoSaid' is the law's where the arguments, and the package variables that the reading takes, are together of bulk at most 1048576: NARROWER than '..Said'. Prove '..Said' where nothing that the law and all that it calls make is longer than what came in: it says more and counts as full. Else prove '..UptoSaid'. A law counts once. -/
mutual
def uptoBulk {H : Type} : DataW H → Nat
  | .lit (.string bytes) => bytes.length + 1
  | .lit _ => 1
  | .nil => 1
  | .ptr d => uptoBulk d + 1
  | .slice elems spare => uptoBulkAll elems + uptoBulkAll spare + 1
  | .agg parts => uptoBulkAll parts + 1
  | .iface _ d => uptoBulk d + 1
  | .map entries => uptoBulkEntries entries + 1
  | .held _ => 1
def uptoBulkAll {H : Type} : List (DataW H) → Nat
  | [] => 0
  | d :: r => uptoBulk d + uptoBulkAll r
def uptoBulkEntries {H : Type} : List (Lit × DataW H) → Nat
  | [] => 0
  | x :: r => uptoBulkEntry x + uptoBulkEntries r
def uptoBulkEntry {H : Type} : Lit × DataW H → Nat
  | (.string bytes, d) => bytes.length + uptoBulk d + 1
  | (_, d) => uptoBulk d + 1
 end
def uptoSmall : (H : Type) → List (DataW H) → Bool := fun _ ds => decide (uptoBulkAll ds ≤ 1048576)
def OpenSpec.upto (s : _root_.Go.ChangeSpec) : _root_.Go.OpenSpec := { _root_.Go.OpenSpec.ofChange s with cond := some uptoSmall }

/-- 'laws.FnExactGoodput', WHERE WHAT IT READS IS OF BULK AT MOST 1048576: true; the input reads as it did. -/
def fnExactGoodputUptoRow : OpenClaim := { program := "ytldcbiahicmgnaa", sum := "cb7679e3fbab375fdffa476b2ad46273d5fc8dec011112a1c2f1b70d0690d1ab", func := "loop.example/g00559/laws.FnExactGoodput", spec := "fnExactGoodput", apart := false, narrowed := true }
def FnExactGoodputUptoSaid : Prop := fnExactGoodputUptoRow.holds Try.pinned (OpenSpec.upto fnExactGoodputSpec)

/-- 'laws.FnExactAgain', WHERE WHAT IT READS IS OF BULK AT MOST 1048576: true; the input reads as it did. -/
def fnExactAgainUptoRow : OpenClaim := { program := "ytldcbiahicmgnaa", sum := "cb7679e3fbab375fdffa476b2ad46273d5fc8dec011112a1c2f1b70d0690d1ab", func := "loop.example/g00559/laws.FnExactAgain", spec := "fnExactAgain", apart := false, narrowed := true }
def FnExactAgainUptoSaid : Prop := fnExactAgainUptoRow.holds Try.pinned (OpenSpec.upto fnExactAgainSpec)

/-- 'laws.FnGoodputUp', WHERE WHAT IT READS IS OF BULK AT MOST 1048576: true; the input reads as it did. -/
def fnGoodputUpUptoRow : OpenClaim := { program := "ytldcbiahicmgnaa", sum := "cb7679e3fbab375fdffa476b2ad46273d5fc8dec011112a1c2f1b70d0690d1ab", func := "loop.example/g00559/laws.FnGoodputUp", spec := "fnGoodputUp", apart := false, narrowed := true }
def FnGoodputUpUptoSaid : Prop := fnGoodputUpUptoRow.holds Try.pinned (OpenSpec.upto fnGoodputUpSpec)

end Rows
end Go.Proofs.Ytldcbiahicmgnaa
