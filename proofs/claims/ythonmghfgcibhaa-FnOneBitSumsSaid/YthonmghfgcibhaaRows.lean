/-
  No cell of these rows narrows 'for every input' (looked for: loops, veiled, ifaces, maps, wideKeys, modest, calm, conditions, laid).
  DERIVED. THE GIVEN ROWS OF THIS SEAT. 3 by the template 'for every input the law returns true; each argument reads behind the call as it read before'; 0 by the template 'total and deterministic' (their statements: YthonmghfgcibhaaTotals.lean).
  GIVEN WITH THE SEED: the statements are not yours to turn. If you find one false, say at which input.
  Laid BY PROGRAM, IN A SANDBOX (cutbox-rows.mjs): the forced cells as the released guide's own fill.sh prints them over the translation ad6080fa85bee627… (all of the seat's roots in one cut). By AI agents, Wed Nov 11 2026. No macro, syntax, notation, axiom, sorry.
-/
import Derived.Test.YthonmghfgcibhaaChecked
import GoSem.Claim
import GoSem.ClaimJoined
import GoSem.ClaimMapViews
import Derived.JoinedTies
import Derived.KernelRfl
namespace Go.Proofs.Ythonmghfgcibhaa
/- THE CELL 'sum', in the pinned program and in every row, IS THE sha256 OF THE DUMP (.gsa) THAT YthonmghfgcibhaaProg.lean LOADS. Nothing in Lean hashes anything: it is a label: what it is worth is what the hold of that sum in a sandbox is worth. -/
noncomputable def Try.pinned : Pinned := { name := "ythonmghfgcibhaa", sum := "ad6080fa85bee627cd19c2a6349333ca848d8753f1484393f75d64a2500efed0", checked := Try.checked }
namespace Rows
def none {H : Type} : Left H := { results := [], args := [] }

/-- 'laws.FnTcpLong': WHATEVER THE INPUT: true; the input reads as it did. -/
def fnTcpLongSpec : ChangeSpec := { name := "fnTcpLong", fn := fun _ => fun
  | [d] => { results := [.lit (.bool true)], args := [d] }
  | _ => none }
def fnTcpLongRow : OpenClaim := { program := "ythonmghfgcibhaa", sum := "ad6080fa85bee627cd19c2a6349333ca848d8753f1484393f75d64a2500efed0", func := "loop.example/g00559/laws.FnTcpLong", spec := "fnTcpLong", inPlace := ["internal/abi.NoEscape"], apart := false }
def FnTcpLongSaid : Prop := fnTcpLongRow.holds Try.pinned (OpenSpec.ofChange fnTcpLongSpec)

/-- ITS FALSE NEIGHBOUR: 'it returns false'. Refute it at one input. -/
def fnTcpLongWrong : ChangeSpec := { name := "fnTcpLong", fn := fun _ => fun
  | [d] => { results := [.lit (.bool false)], args := [d] }
  | _ => none }
def FnTcpLongWrongFalsely : Prop := fnTcpLongRow.holds Try.pinned (OpenSpec.ofChange fnTcpLongWrong)

/-- 'laws.FnTcps': WHATEVER THE INPUT: true; the input reads as it did. -/
def fnTcpsSpec : ChangeSpec := { name := "fnTcps", fn := fun _ => fun
  | [d] => { results := [.lit (.bool true)], args := [d] }
  | _ => none }
def fnTcpsRow : OpenClaim := { program := "ythonmghfgcibhaa", sum := "ad6080fa85bee627cd19c2a6349333ca848d8753f1484393f75d64a2500efed0", func := "loop.example/g00559/laws.FnTcps", spec := "fnTcps", inPlace := ["internal/abi.NoEscape"], unfollowed := true, recurses := true, apart := false }
def FnTcpsSaid : Prop := fnTcpsRow.holds Try.pinned (OpenSpec.ofChange fnTcpsSpec)

/-- ITS FALSE NEIGHBOUR: 'it returns false'. Refute it at one input. -/
def fnTcpsWrong : ChangeSpec := { name := "fnTcps", fn := fun _ => fun
  | [d] => { results := [.lit (.bool false)], args := [d] }
  | _ => none }
def FnTcpsWrongFalsely : Prop := fnTcpsRow.holds Try.pinned (OpenSpec.ofChange fnTcpsWrong)

/-- 'laws.FnOneBitSums': WHATEVER THE INPUT: true; the input reads as it did. -/
def fnOneBitSumsSpec : ChangeSpec := { name := "fnOneBitSums", fn := fun _ => fun
  | [d] => { results := [.lit (.bool true)], args := [d] }
  | _ => none }
def fnOneBitSumsRow : OpenClaim := { program := "ythonmghfgcibhaa", sum := "ad6080fa85bee627cd19c2a6349333ca848d8753f1484393f75d64a2500efed0", func := "loop.example/g00559/laws.FnOneBitSums", spec := "fnOneBitSums", inPlace := ["internal/abi.NoEscape"], unfollowed := true, recurses := true, apart := false }
def FnOneBitSumsSaid : Prop := fnOneBitSumsRow.holds Try.pinned (OpenSpec.ofChange fnOneBitSumsSpec)

/-- ITS FALSE NEIGHBOUR: 'it returns false'. Refute it at one input. -/
def fnOneBitSumsWrong : ChangeSpec := { name := "fnOneBitSums", fn := fun _ => fun
  | [d] => { results := [.lit (.bool false)], args := [d] }
  | _ => none }
def FnOneBitSumsWrongFalsely : Prop := fnOneBitSumsRow.holds Try.pinned (OpenSpec.ofChange fnOneBitSumsWrong)

/- THE SECOND FORM. 'bulk': how many values and letters a reading holds, each counted each time it is reached (what is shared counts as often as it is met; a slice's spare places count too). A statement '..UptoSaid' is the law's where the arguments, and the package variables that the reading takes, are together of bulk at most 1048576: NARROWER than '..Said'. Prove '..Said' where nothing that the law and all that it calls make is longer than what came in: it says more and counts as full. Else prove '..UptoSaid'. A law counts once. -/
mutual
def uptoBulk {H : Type} : DataW H → Nat
  | .lit (.string bytes) => bytes.length + 1
  | .lit _ => 1
  | .nil => 1
  | .ptr d => uptoBulk d + 1
  | .slice elems spare => uptoBulkAll elems + uptoBulkAll spare + 1
  | .agg parts => uptoBulkAll parts + 1
  | .iface _ d => uptoBulk d + 1
  | .map entries => uptoBulkEntries entries + 1
  | .held _ => 1
def uptoBulkAll {H : Type} : List (DataW H) → Nat
  | [] => 0
  | d :: r => uptoBulk d + uptoBulkAll r
def uptoBulkEntries {H : Type} : List (Lit × DataW H) → Nat
  | [] => 0
  | x :: r => uptoBulkEntry x + uptoBulkEntries r
def uptoBulkEntry {H : Type} : Lit × DataW H → Nat
  | (.string bytes, d) => bytes.length + uptoBulk d + 1
  | (_, d) => uptoBulk d + 1
 end
def uptoSmall : (H : Type) → List (DataW H) → Bool := fun _ ds => decide (uptoBulkAll ds ≤ 1048576)
def OpenSpec.upto (s : _root_.Go.ChangeSpec) : _root_.Go.OpenSpec := { _root_.Go.OpenSpec.ofChange s with cond := some uptoSmall }

/-- 'laws.FnTcpLong', WHERE WHAT IT READS IS OF BULK AT MOST 1048576: true; the input reads as it did. -/
def fnTcpLongUptoRow : OpenClaim := { program := "ythonmghfgcibhaa", sum := "ad6080fa85bee627cd19c2a6349333ca848d8753f1484393f75d64a2500efed0", func := "loop.example/g00559/laws.FnTcpLong", spec := "fnTcpLong", inPlace := ["internal/abi.NoEscape"], apart := false, narrowed := true }
def FnTcpLongUptoSaid : Prop := fnTcpLongUptoRow.holds Try.pinned (OpenSpec.upto fnTcpLongSpec)

/-- 'laws.FnTcps', WHERE WHAT IT READS IS OF BULK AT MOST 1048576: true; the input reads as it did. -/
def fnTcpsUptoRow : OpenClaim := { program := "ythonmghfgcibhaa", sum := "ad6080fa85bee627cd19c2a6349333ca848d8753f1484393f75d64a2500efed0", func := "loop.example/g00559/laws.FnTcps", spec := "fnTcps", inPlace := ["internal/abi.NoEscape"], unfollowed := true, recurses := true, apart := false, narrowed := true }
def FnTcpsUptoSaid : Prop := fnTcpsUptoRow.holds Try.pinned (OpenSpec.upto fnTcpsSpec)

/-- 'laws.FnOneBitSums', WHERE WHAT IT READS IS OF BULK AT MOST 1048576: true; the input reads as it did. -/
def fnOneBitSumsUptoRow : OpenClaim := { program := "ythonmghfgcibhaa", sum := "ad6080fa85bee627cd19c2a6349333ca848d8753f1484393f75d64a2500efed0", func := "loop.example/g00559/laws.FnOneBitSums", spec := "fnOneBitSums", inPlace := ["internal/abi.NoEscape"], unfollowed := true, recurses := true, apart := false, narrowed := true }
def FnOneBitSumsUptoSaid : Prop := fnOneBitSumsUptoRow.holds Try.pinned (OpenSpec.upto fnOneBitSumsSpec)

end Rows
end Go.Proofs.Ythonmghfgcibhaa
