/-
  No cell of these rows narrows 'for every input' (looked for: loops, veiled, ifaces, maps, wideKeys, modest, calm, conditions, laid).
  DERIVED. THE GIVEN ROWS OF THIS SEAT. 5 by the template 'for every input the law returns true; each argument reads behind the call as it read before'; 0 by the template 'total and deterministic' (their statements: YtedgfiagefhahaaTotals.lean).
  GIVEN WITH THE SEED: the statements are not yours to turn. If you find one false, say at which input.
  Laid BY PROGRAM, IN A SANDBOX (cutbox-rows.mjs): the forced cells as the released guide's own fill.sh prints them over the translation 70e76e90061f92ee… (all of the seat's roots in one cut). By AI agents, Wed Nov 11 2026. No macro, syntax, notation, axiom, sorry.
-/
import Derived.Test.YtedgfiagefhahaaChecked
import GoSem.Claim
import GoSem.ClaimJoined
import GoSem.ClaimMapViews
import Derived.JoinedTies
import Derived.KernelRfl
namespace Go.Proofs.Ytedgfiagefhahaa
/- THE CELL 'sum', in the pinned program and in every row, IS THE sha256 OF THE DUMP (.gsa) THAT YtedgfiagefhahaaProg.lean LOADS. Nothing in Lean hashes anything: it is a label: what it is worth is what the hold of that sum in a sandbox is worth. -/
noncomputable def Try.pinned : Pinned := { name := "ytedgfiagefhahaa", sum := "70e76e90061f92eecabdeb9a0fac631485486684fb76327ecf3c6b850e657b4c", checked := Try.checked }
namespace Rows
def none {H : Type} : Left H := { results := [], args := [] }

/-- 'laws.FnBoards': WHATEVER THE INPUT: true; the input reads as it did. -/
def fnBoardsSpec : ChangeSpec := { name := "fnBoards", fn := fun _ => fun
  | [d] => { results := [.lit (.bool true)], args := [d] }
  | _ => none }
def fnBoardsRow : OpenClaim := { program := "ytedgfiagefhahaa", sum := "70e76e90061f92eecabdeb9a0fac631485486684fb76327ecf3c6b850e657b4c", func := "loop.example/g00559/laws.FnBoards", spec := "fnBoards", unfollowed := true, recurses := true, apart := false }
def FnBoardsSaid : Prop := fnBoardsRow.holds Try.pinned (OpenSpec.ofChange fnBoardsSpec)

/-- ITS FALSE NEIGHBOUR: 'it returns false'. Refute it at one input. -/
def fnBoardsWrong : ChangeSpec := { name := "fnBoards", fn := fun _ => fun
  | [d] => { results := [.lit (.bool false)], args := [d] }
  | _ => none }
def FnBoardsWrongFalsely : Prop := fnBoardsRow.holds Try.pinned (OpenSpec.ofChange fnBoardsWrong)

/-- 'laws.FnSacked': WHATEVER THE INPUT: true; the input reads as it did. -/
def fnSackedSpec : ChangeSpec := { name := "fnSacked", fn := fun _ => fun
  | [d] => { results := [.lit (.bool true)], args := [d] }
  | _ => none }
def fnSackedRow : OpenClaim := { program := "ytedgfiagefhahaa", sum := "70e76e90061f92eecabdeb9a0fac631485486684fb76327ecf3c6b850e657b4c", func := "loop.example/g00559/laws.FnSacked", spec := "fnSacked", unfollowed := true, recurses := true, apart := false }
def FnSackedSaid : Prop := fnSackedRow.holds Try.pinned (OpenSpec.ofChange fnSackedSpec)

/-- ITS FALSE NEIGHBOUR: 'it returns false'. Refute it at one input. -/
def fnSackedWrong : ChangeSpec := { name := "fnSacked", fn := fun _ => fun
  | [d] => { results := [.lit (.bool false)], args := [d] }
  | _ => none }
def FnSackedWrongFalsely : Prop := fnSackedRow.holds Try.pinned (OpenSpec.ofChange fnSackedWrong)

/-- 'laws.FnLost': WHATEVER THE INPUT: true; the input reads as it did. -/
def fnLostSpec : ChangeSpec := { name := "fnLost", fn := fun _ => fun
  | [d] => { results := [.lit (.bool true)], args := [d] }
  | _ => none }
def fnLostRow : OpenClaim := { program := "ytedgfiagefhahaa", sum := "70e76e90061f92eecabdeb9a0fac631485486684fb76327ecf3c6b850e657b4c", func := "loop.example/g00559/laws.FnLost", spec := "fnLost", unfollowed := true, recurses := true, apart := false }
def FnLostSaid : Prop := fnLostRow.holds Try.pinned (OpenSpec.ofChange fnLostSpec)

/-- ITS FALSE NEIGHBOUR: 'it returns false'. Refute it at one input. -/
def fnLostWrong : ChangeSpec := { name := "fnLost", fn := fun _ => fun
  | [d] => { results := [.lit (.bool false)], args := [d] }
  | _ => none }
def FnLostWrongFalsely : Prop := fnLostRow.holds Try.pinned (OpenSpec.ofChange fnLostWrong)

/-- 'laws.FnSackTwice': WHATEVER THE INPUT: true; the input reads as it did. -/
def fnSackTwiceSpec : ChangeSpec := { name := "fnSackTwice", fn := fun _ => fun
  | [d] => { results := [.lit (.bool true)], args := [d] }
  | _ => none }
def fnSackTwiceRow : OpenClaim := { program := "ytedgfiagefhahaa", sum := "70e76e90061f92eecabdeb9a0fac631485486684fb76327ecf3c6b850e657b4c", func := "loop.example/g00559/laws.FnSackTwice", spec := "fnSackTwice", unfollowed := true, recurses := true, apart := false }
def FnSackTwiceSaid : Prop := fnSackTwiceRow.holds Try.pinned (OpenSpec.ofChange fnSackTwiceSpec)

/-- ITS FALSE NEIGHBOUR: 'it returns false'. Refute it at one input. -/
def fnSackTwiceWrong : ChangeSpec := { name := "fnSackTwice", fn := fun _ => fun
  | [d] => { results := [.lit (.bool false)], args := [d] }
  | _ => none }
def FnSackTwiceWrongFalsely : Prop := fnSackTwiceRow.holds Try.pinned (OpenSpec.ofChange fnSackTwiceWrong)

/-- 'laws.FnLostStays': WHATEVER THE INPUT: true; the input reads as it did. -/
def fnLostStaysSpec : ChangeSpec := { name := "fnLostStays", fn := fun _ => fun
  | [d] => { results := [.lit (.bool true)], args := [d] }
  | _ => none }
def fnLostStaysRow : OpenClaim := { program := "ytedgfiagefhahaa", sum := "70e76e90061f92eecabdeb9a0fac631485486684fb76327ecf3c6b850e657b4c", func := "loop.example/g00559/laws.FnLostStays", spec := "fnLostStays", unfollowed := true, recurses := true, apart := false }
def FnLostStaysSaid : Prop := fnLostStaysRow.holds Try.pinned (OpenSpec.ofChange fnLostStaysSpec)

/-- ITS FALSE NEIGHBOUR: 'it returns false'. Refute it at one input. -/
def fnLostStaysWrong : ChangeSpec := { name := "fnLostStays", fn := fun _ => fun
  | [d] => { results := [.lit (.bool false)], args := [d] }
  | _ => none }
def FnLostStaysWrongFalsely : Prop := fnLostStaysRow.holds Try.pinned (OpenSpec.ofChange fnLostStaysWrong)

/- THE SECOND FORM. 'bulk': how many values and letters a reading holds, each counted each time it is reached (what is shared counts as often as it is met; a slice's spare places count too). A statement '..UptoSaid' is the law's where the arguments, and the package variables that the reading takes, are together of bulk at most 1048576: NARROWER than '..Said'. Prove '..Said' where nothing that the law and all that it calls make is longer than what came in: it says more and counts as full. Else prove '..UptoSaid'. A law counts once. -/
mutual
def uptoBulk {H : Type} : DataW H → Nat
  | .lit (.string bytes) => bytes.length + 1
  | .lit _ => 1
  | .nil => 1
  | .ptr d => uptoBulk d + 1
  | .slice elems spare => uptoBulkAll elems + uptoBulkAll spare + 1
  | .agg parts => uptoBulkAll parts + 1
  | .iface _ d => uptoBulk d + 1
  | .map entries => uptoBulkEntries entries + 1
  | .held _ => 1
def uptoBulkAll {H : Type} : List (DataW H) → Nat
  | [] => 0
  | d :: r => uptoBulk d + uptoBulkAll r
def uptoBulkEntries {H : Type} : List (Lit × DataW H) → Nat
  | [] => 0
  | x :: r => uptoBulkEntry x + uptoBulkEntries r
def uptoBulkEntry {H : Type} : Lit × DataW H → Nat
  | (.string bytes, d) => bytes.length + uptoBulk d + 1
  | (_, d) => uptoBulk d + 1
 end
def uptoSmall : (H : Type) → List (DataW H) → Bool := fun _ ds => decide (uptoBulkAll ds ≤ 1048576)
def OpenSpec.upto (s : _root_.Go.ChangeSpec) : _root_.Go.OpenSpec := { _root_.Go.OpenSpec.ofChange s with cond := some uptoSmall }

/-- 'laws.FnBoards', WHERE WHAT IT READS IS OF BULK AT MOST 1048576: true; the input reads as it did. -/
def fnBoardsUptoRow : OpenClaim := { program := "ytedgfiagefhahaa", sum := "70e76e90061f92eecabdeb9a0fac631485486684fb76327ecf3c6b850e657b4c", func := "loop.example/g00559/laws.FnBoards", spec := "fnBoards", unfollowed := true, recurses := true, apart := false, narrowed := true }
def FnBoardsUptoSaid : Prop := fnBoardsUptoRow.holds Try.pinned (OpenSpec.upto fnBoardsSpec)

/-- 'laws.FnSacked', WHERE WHAT IT READS IS OF BULK AT MOST 1048576: true; the input reads as it did. -/
def fnSackedUptoRow : OpenClaim := { program := "ytedgfiagefhahaa", sum := "70e76e90061f92eecabdeb9a0fac631485486684fb76327ecf3c6b850e657b4c", func := "loop.example/g00559/laws.FnSacked", spec := "fnSacked", unfollowed := true, recurses := true, apart := false, narrowed := true }
def FnSackedUptoSaid : Prop := fnSackedUptoRow.holds Try.pinned (OpenSpec.upto fnSackedSpec)

/-- 'laws.FnLost', WHERE WHAT IT READS IS OF BULK AT MOST 1048576: true; the input reads as it did. -/
def fnLostUptoRow : OpenClaim := { program := "ytedgfiagefhahaa", sum := "70e76e90061f92eecabdeb9a0fac631485486684fb76327ecf3c6b850e657b4c", func := "loop.example/g00559/laws.FnLost", spec := "fnLost", unfollowed := true, recurses := true, apart := false, narrowed := true }
def FnLostUptoSaid : Prop := fnLostUptoRow.holds Try.pinned (OpenSpec.upto fnLostSpec)

/-- 'laws.FnSackTwice', WHERE WHAT IT READS IS OF BULK AT MOST 1048576: true; the input reads as it did. -/
def fnSackTwiceUptoRow : OpenClaim := { program := "ytedgfiagefhahaa", sum := "70e76e90061f92eecabdeb9a0fac631485486684fb76327ecf3c6b850e657b4c", func := "loop.example/g00559/laws.FnSackTwice", spec := "fnSackTwice", unfollowed := true, recurses := true, apart := false, narrowed := true }
def FnSackTwiceUptoSaid : Prop := fnSackTwiceUptoRow.holds Try.pinned (OpenSpec.upto fnSackTwiceSpec)

/-- 'laws.FnLostStays', WHERE WHAT IT READS IS OF BULK AT MOST 1048576: true; the input reads as it did. -/
def fnLostStaysUptoRow : OpenClaim := { program := "ytedgfiagefhahaa", sum := "70e76e90061f92eecabdeb9a0fac631485486684fb76327ecf3c6b850e657b4c", func := "loop.example/g00559/laws.FnLostStays", spec := "fnLostStays", unfollowed := true, recurses := true, apart := false, narrowed := true }
def FnLostStaysUptoSaid : Prop := fnLostStaysUptoRow.holds Try.pinned (OpenSpec.upto fnLostStaysSpec)

end Rows
end Go.Proofs.Ytedgfiagefhahaa
