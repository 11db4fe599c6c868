/-
  No cell of these rows narrows 'for every input' (looked for: loops, veiled, ifaces, maps, wideKeys, modest, calm, conditions, laid).
  DERIVED. THE GIVEN ROWS OF THIS SEAT. 12 by the template 'for every input the law returns true; each argument reads behind the call as it read before'; 0 by the template 'total and deterministic' (their statements: YtenfibgcepcbgaaTotals.lean).
  GIVEN WITH THE SEED: the statements are not yours to turn. If you find one false, say at which input.
  Laid BY PROGRAM, IN A SANDBOX (cutbox-rows.mjs): the forced cells as the released guide's own fill.sh prints them over the translation a42312520b8d00cd… (all of the seat's roots in one cut). By AI agents, Wed Nov 11 2026. No macro, syntax, notation, axiom, sorry.
-/
import Derived.Test.YtenfibgcepcbgaaChecked
import GoSem.Claim
import GoSem.ClaimJoined
import GoSem.ClaimMapViews
import Derived.JoinedTies
import Derived.KernelRfl
namespace Go.Proofs.Ytenfibgcepcbgaa
/- THE CELL 'sum', in the pinned program and in every row, IS THE sha256 OF THE DUMP (.gsa) THAT YtenfibgcepcbgaaProg.lean LOADS. Nothing in Lean hashes anything: it is a label: what it is worth is what the hold of that sum in a sandbox is worth. -/
noncomputable def Try.pinned : Pinned := { name := "ytenfibgcepcbgaa", sum := "a42312520b8d00cd6c77b14d51a8700e024e1fff8d0bb936df79255049a28325", checked := Try.checked }
namespace Rows
def none {H : Type} : Left H := { results := [], args := [] }

/-- 'laws.FnSeqs': WHATEVER THE INPUT: true; the input reads as it did. -/
def fnSeqsSpec : ChangeSpec := { name := "fnSeqs", fn := fun _ => fun
  | [d] => { results := [.lit (.bool true)], args := [d] }
  | _ => none }
def fnSeqsRow : OpenClaim := { program := "ytenfibgcepcbgaa", sum := "a42312520b8d00cd6c77b14d51a8700e024e1fff8d0bb936df79255049a28325", func := "loop.example/g00559/laws.FnSeqs", spec := "fnSeqs", apart := false }
def FnSeqsSaid : Prop := fnSeqsRow.holds Try.pinned (OpenSpec.ofChange fnSeqsSpec)

/-- ITS FALSE NEIGHBOUR: 'it returns false'. Refute it at one input. -/
def fnSeqsWrong : ChangeSpec := { name := "fnSeqs", fn := fun _ => fun
  | [d] => { results := [.lit (.bool false)], args := [d] }
  | _ => none }
def FnSeqsWrongFalsely : Prop := fnSeqsRow.holds Try.pinned (OpenSpec.ofChange fnSeqsWrong)

/-- 'laws.FnUnwrap': WHATEVER THE INPUT: true; the input reads as it did. -/
def fnUnwrapSpec : ChangeSpec := { name := "fnUnwrap", fn := fun _ => fun
  | [d] => { results := [.lit (.bool true)], args := [d] }
  | _ => none }
def fnUnwrapRow : OpenClaim := { program := "ytenfibgcepcbgaa", sum := "a42312520b8d00cd6c77b14d51a8700e024e1fff8d0bb936df79255049a28325", func := "loop.example/g00559/laws.FnUnwrap", spec := "fnUnwrap", apart := false }
def FnUnwrapSaid : Prop := fnUnwrapRow.holds Try.pinned (OpenSpec.ofChange fnUnwrapSpec)

/-- ITS FALSE NEIGHBOUR: 'it returns false'. Refute it at one input. -/
def fnUnwrapWrong : ChangeSpec := { name := "fnUnwrap", fn := fun _ => fun
  | [d] => { results := [.lit (.bool false)], args := [d] }
  | _ => none }
def FnUnwrapWrongFalsely : Prop := fnUnwrapRow.holds Try.pinned (OpenSpec.ofChange fnUnwrapWrong)

/-- 'laws.FnSeqTwice': WHATEVER THE INPUT: true; the input reads as it did. -/
def fnSeqTwiceSpec : ChangeSpec := { name := "fnSeqTwice", fn := fun _ => fun
  | [d] => { results := [.lit (.bool true)], args := [d] }
  | _ => none }
def fnSeqTwiceRow : OpenClaim := { program := "ytenfibgcepcbgaa", sum := "a42312520b8d00cd6c77b14d51a8700e024e1fff8d0bb936df79255049a28325", func := "loop.example/g00559/laws.FnSeqTwice", spec := "fnSeqTwice", apart := false }
def FnSeqTwiceSaid : Prop := fnSeqTwiceRow.holds Try.pinned (OpenSpec.ofChange fnSeqTwiceSpec)

/-- ITS FALSE NEIGHBOUR: 'it returns false'. Refute it at one input. -/
def fnSeqTwiceWrong : ChangeSpec := { name := "fnSeqTwice", fn := fun _ => fun
  | [d] => { results := [.lit (.bool false)], args := [d] }
  | _ => none }
def FnSeqTwiceWrongFalsely : Prop := fnSeqTwiceRow.holds Try.pinned (OpenSpec.ofChange fnSeqTwiceWrong)

/-- 'laws.FnUnwrapNext': WHATEVER THE INPUT: true; the input reads as it did. -/
def fnUnwrapNextSpec : ChangeSpec := { name := "fnUnwrapNext", fn := fun _ => fun
  | [d] => { results := [.lit (.bool true)], args := [d] }
  | _ => none }
def fnUnwrapNextRow : OpenClaim := { program := "ytenfibgcepcbgaa", sum := "a42312520b8d00cd6c77b14d51a8700e024e1fff8d0bb936df79255049a28325", func := "loop.example/g00559/laws.FnUnwrapNext", spec := "fnUnwrapNext", apart := false }
def FnUnwrapNextSaid : Prop := fnUnwrapNextRow.holds Try.pinned (OpenSpec.ofChange fnUnwrapNextSpec)

/-- ITS FALSE NEIGHBOUR: 'it returns false'. Refute it at one input. -/
def fnUnwrapNextWrong : ChangeSpec := { name := "fnUnwrapNext", fn := fun _ => fun
  | [d] => { results := [.lit (.bool false)], args := [d] }
  | _ => none }
def FnUnwrapNextWrongFalsely : Prop := fnUnwrapNextRow.holds Try.pinned (OpenSpec.ofChange fnUnwrapNextWrong)

/-- 'laws.FnExactPutBe': WHATEVER THE INPUT: true; the input reads as it did. -/
def fnExactPutBeSpec : ChangeSpec := { name := "fnExactPutBe", fn := fun _ => fun
  | [d1, d2] => { results := [.lit (.bool true)], args := [d1, d2] }
  | _ => none }
def fnExactPutBeRow : OpenClaim := { program := "ytenfibgcepcbgaa", sum := "a42312520b8d00cd6c77b14d51a8700e024e1fff8d0bb936df79255049a28325", func := "loop.example/g00559/laws.FnExactPutBe", spec := "fnExactPutBe", apart := false }
def FnExactPutBeSaid : Prop := fnExactPutBeRow.holds Try.pinned (OpenSpec.ofChange fnExactPutBeSpec)

/-- ITS FALSE NEIGHBOUR: 'it returns false'. Refute it at one input. -/
def fnExactPutBeWrong : ChangeSpec := { name := "fnExactPutBe", fn := fun _ => fun
  | [d1, d2] => { results := [.lit (.bool false)], args := [d1, d2] }
  | _ => none }
def FnExactPutBeWrongFalsely : Prop := fnExactPutBeRow.holds Try.pinned (OpenSpec.ofChange fnExactPutBeWrong)

/-- 'laws.FnExactGetBe': WHATEVER THE INPUT: true; the input reads as it did. -/
def fnExactGetBeSpec : ChangeSpec := { name := "fnExactGetBe", fn := fun _ => fun
  | [d] => { results := [.lit (.bool true)], args := [d] }
  | _ => none }
def fnExactGetBeRow : OpenClaim := { program := "ytenfibgcepcbgaa", sum := "a42312520b8d00cd6c77b14d51a8700e024e1fff8d0bb936df79255049a28325", func := "loop.example/g00559/laws.FnExactGetBe", spec := "fnExactGetBe", apart := false }
def FnExactGetBeSaid : Prop := fnExactGetBeRow.holds Try.pinned (OpenSpec.ofChange fnExactGetBeSpec)

/-- ITS FALSE NEIGHBOUR: 'it returns false'. Refute it at one input. -/
def fnExactGetBeWrong : ChangeSpec := { name := "fnExactGetBe", fn := fun _ => fun
  | [d] => { results := [.lit (.bool false)], args := [d] }
  | _ => none }
def FnExactGetBeWrongFalsely : Prop := fnExactGetBeRow.holds Try.pinned (OpenSpec.ofChange fnExactGetBeWrong)

/-- 'laws.FnExactPutLe': WHATEVER THE INPUT: true; the input reads as it did. -/
def fnExactPutLeSpec : ChangeSpec := { name := "fnExactPutLe", fn := fun _ => fun
  | [d1, d2] => { results := [.lit (.bool true)], args := [d1, d2] }
  | _ => none }
def fnExactPutLeRow : OpenClaim := { program := "ytenfibgcepcbgaa", sum := "a42312520b8d00cd6c77b14d51a8700e024e1fff8d0bb936df79255049a28325", func := "loop.example/g00559/laws.FnExactPutLe", spec := "fnExactPutLe", apart := false }
def FnExactPutLeSaid : Prop := fnExactPutLeRow.holds Try.pinned (OpenSpec.ofChange fnExactPutLeSpec)

/-- ITS FALSE NEIGHBOUR: 'it returns false'. Refute it at one input. -/
def fnExactPutLeWrong : ChangeSpec := { name := "fnExactPutLe", fn := fun _ => fun
  | [d1, d2] => { results := [.lit (.bool false)], args := [d1, d2] }
  | _ => none }
def FnExactPutLeWrongFalsely : Prop := fnExactPutLeRow.holds Try.pinned (OpenSpec.ofChange fnExactPutLeWrong)

/-- 'laws.FnExactGetLe': WHATEVER THE INPUT: true; the input reads as it did. -/
def fnExactGetLeSpec : ChangeSpec := { name := "fnExactGetLe", fn := fun _ => fun
  | [d] => { results := [.lit (.bool true)], args := [d] }
  | _ => none }
def fnExactGetLeRow : OpenClaim := { program := "ytenfibgcepcbgaa", sum := "a42312520b8d00cd6c77b14d51a8700e024e1fff8d0bb936df79255049a28325", func := "loop.example/g00559/laws.FnExactGetLe", spec := "fnExactGetLe", apart := false }
def FnExactGetLeSaid : Prop := fnExactGetLeRow.holds Try.pinned (OpenSpec.ofChange fnExactGetLeSpec)

/-- ITS FALSE NEIGHBOUR: 'it returns false'. Refute it at one input. -/
def fnExactGetLeWrong : ChangeSpec := { name := "fnExactGetLe", fn := fun _ => fun
  | [d] => { results := [.lit (.bool false)], args := [d] }
  | _ => none }
def FnExactGetLeWrongFalsely : Prop := fnExactGetLeRow.holds Try.pinned (OpenSpec.ofChange fnExactGetLeWrong)

/-- 'laws.FnExactSum16': WHATEVER THE INPUT: true; the input reads as it did. -/
def fnExactSum16Spec : ChangeSpec := { name := "fnExactSum16", fn := fun _ => fun
  | [d] => { results := [.lit (.bool true)], args := [d] }
  | _ => none }
def fnExactSum16Row : OpenClaim := { program := "ytenfibgcepcbgaa", sum := "a42312520b8d00cd6c77b14d51a8700e024e1fff8d0bb936df79255049a28325", func := "loop.example/g00559/laws.FnExactSum16", spec := "fnExactSum16", apart := false }
def FnExactSum16Said : Prop := fnExactSum16Row.holds Try.pinned (OpenSpec.ofChange fnExactSum16Spec)

/-- ITS FALSE NEIGHBOUR: 'it returns false'. Refute it at one input. -/
def fnExactSum16Wrong : ChangeSpec := { name := "fnExactSum16", fn := fun _ => fun
  | [d] => { results := [.lit (.bool false)], args := [d] }
  | _ => none }
def FnExactSum16WrongFalsely : Prop := fnExactSum16Row.holds Try.pinned (OpenSpec.ofChange fnExactSum16Wrong)

/-- 'laws.FnExactSeqAdd': WHATEVER THE INPUT: true; the input reads as it did. -/
def fnExactSeqAddSpec : ChangeSpec := { name := "fnExactSeqAdd", fn := fun _ => fun
  | [d1, d2] => { results := [.lit (.bool true)], args := [d1, d2] }
  | _ => none }
def fnExactSeqAddRow : OpenClaim := { program := "ytenfibgcepcbgaa", sum := "a42312520b8d00cd6c77b14d51a8700e024e1fff8d0bb936df79255049a28325", func := "loop.example/g00559/laws.FnExactSeqAdd", spec := "fnExactSeqAdd", apart := false }
def FnExactSeqAddSaid : Prop := fnExactSeqAddRow.holds Try.pinned (OpenSpec.ofChange fnExactSeqAddSpec)

/-- ITS FALSE NEIGHBOUR: 'it returns false'. Refute it at one input. -/
def fnExactSeqAddWrong : ChangeSpec := { name := "fnExactSeqAdd", fn := fun _ => fun
  | [d1, d2] => { results := [.lit (.bool false)], args := [d1, d2] }
  | _ => none }
def FnExactSeqAddWrongFalsely : Prop := fnExactSeqAddRow.holds Try.pinned (OpenSpec.ofChange fnExactSeqAddWrong)

/-- 'laws.FnExactSeqDiff': WHATEVER THE INPUT: true; the input reads as it did. -/
def fnExactSeqDiffSpec : ChangeSpec := { name := "fnExactSeqDiff", fn := fun _ => fun
  | [d1, d2] => { results := [.lit (.bool true)], args := [d1, d2] }
  | _ => none }
def fnExactSeqDiffRow : OpenClaim := { program := "ytenfibgcepcbgaa", sum := "a42312520b8d00cd6c77b14d51a8700e024e1fff8d0bb936df79255049a28325", func := "loop.example/g00559/laws.FnExactSeqDiff", spec := "fnExactSeqDiff", apart := false }
def FnExactSeqDiffSaid : Prop := fnExactSeqDiffRow.holds Try.pinned (OpenSpec.ofChange fnExactSeqDiffSpec)

/-- ITS FALSE NEIGHBOUR: 'it returns false'. Refute it at one input. -/
def fnExactSeqDiffWrong : ChangeSpec := { name := "fnExactSeqDiff", fn := fun _ => fun
  | [d1, d2] => { results := [.lit (.bool false)], args := [d1, d2] }
  | _ => none }
def FnExactSeqDiffWrongFalsely : Prop := fnExactSeqDiffRow.holds Try.pinned (OpenSpec.ofChange fnExactSeqDiffWrong)

/-- 'laws.FnExactUnwrap': WHATEVER THE INPUT: true; the input reads as it did. -/
def fnExactUnwrapSpec : ChangeSpec := { name := "fnExactUnwrap", fn := fun _ => fun
  | [d1, d2] => { results := [.lit (.bool true)], args := [d1, d2] }
  | _ => none }
def fnExactUnwrapRow : OpenClaim := { program := "ytenfibgcepcbgaa", sum := "a42312520b8d00cd6c77b14d51a8700e024e1fff8d0bb936df79255049a28325", func := "loop.example/g00559/laws.FnExactUnwrap", spec := "fnExactUnwrap", apart := false }
def FnExactUnwrapSaid : Prop := fnExactUnwrapRow.holds Try.pinned (OpenSpec.ofChange fnExactUnwrapSpec)

/-- ITS FALSE NEIGHBOUR: 'it returns false'. Refute it at one input. -/
def fnExactUnwrapWrong : ChangeSpec := { name := "fnExactUnwrap", fn := fun _ => fun
  | [d1, d2] => { results := [.lit (.bool false)], args := [d1, d2] }
  | _ => none }
def FnExactUnwrapWrongFalsely : Prop := fnExactUnwrapRow.holds Try.pinned (OpenSpec.ofChange fnExactUnwrapWrong)

/- THE SECOND FORM. 'bulk': how many values and letters a reading holds, each counted each time it is reached (what is shared counts as often as it is met; a slice's spare places count too). A statement '..UptoSaid' is the law's where the arguments, and the package variables that the reading takes, are together of bulk at most 1048576: NARROWER than '..Said'. Prove '..Said' where nothing that the law and all that it calls make is longer than what came in: it says more and counts as full. Else prove '..UptoSaid'. A law counts once. -/
mutual
def uptoBulk {H : Type} : DataW H → Nat
  | .lit (.string bytes) => bytes.length + 1
  | .lit _ => 1
  | .nil => 1
  | .ptr d => uptoBulk d + 1
  | .slice elems spare => uptoBulkAll elems + uptoBulkAll spare + 1
  | .agg parts => uptoBulkAll parts + 1
  | .iface _ d => uptoBulk d + 1
  | .map entries => uptoBulkEntries entries + 1
  | .held _ => 1
def uptoBulkAll {H : Type} : List (DataW H) → Nat
  | [] => 0
  | d :: r => uptoBulk d + uptoBulkAll r
def uptoBulkEntries {H : Type} : List (Lit × DataW H) → Nat
  | [] => 0
  | x :: r => uptoBulkEntry x + uptoBulkEntries r
def uptoBulkEntry {H : Type} : Lit × DataW H → Nat
  | (.string bytes, d) => bytes.length + uptoBulk d + 1
  | (_, d) => uptoBulk d + 1
 end
def uptoSmall : (H : Type) → List (DataW H) → Bool := fun _ ds => decide (uptoBulkAll ds ≤ 1048576)
def OpenSpec.upto (s : _root_.Go.ChangeSpec) : _root_.Go.OpenSpec := { _root_.Go.OpenSpec.ofChange s with cond := some uptoSmall }

/-- 'laws.FnSeqs', WHERE WHAT IT READS IS OF BULK AT MOST 1048576: true; the input reads as it did. -/
def fnSeqsUptoRow : OpenClaim := { program := "ytenfibgcepcbgaa", sum := "a42312520b8d00cd6c77b14d51a8700e024e1fff8d0bb936df79255049a28325", func := "loop.example/g00559/laws.FnSeqs", spec := "fnSeqs", apart := false, narrowed := true }
def FnSeqsUptoSaid : Prop := fnSeqsUptoRow.holds Try.pinned (OpenSpec.upto fnSeqsSpec)

/-- 'laws.FnUnwrap', WHERE WHAT IT READS IS OF BULK AT MOST 1048576: true; the input reads as it did. -/
def fnUnwrapUptoRow : OpenClaim := { program := "ytenfibgcepcbgaa", sum := "a42312520b8d00cd6c77b14d51a8700e024e1fff8d0bb936df79255049a28325", func := "loop.example/g00559/laws.FnUnwrap", spec := "fnUnwrap", apart := false, narrowed := true }
def FnUnwrapUptoSaid : Prop := fnUnwrapUptoRow.holds Try.pinned (OpenSpec.upto fnUnwrapSpec)

/-- 'laws.FnSeqTwice', WHERE WHAT IT READS IS OF BULK AT MOST 1048576: true; the input reads as it did. -/
def fnSeqTwiceUptoRow : OpenClaim := { program := "ytenfibgcepcbgaa", sum := "a42312520b8d00cd6c77b14d51a8700e024e1fff8d0bb936df79255049a28325", func := "loop.example/g00559/laws.FnSeqTwice", spec := "fnSeqTwice", apart := false, narrowed := true }
def FnSeqTwiceUptoSaid : Prop := fnSeqTwiceUptoRow.holds Try.pinned (OpenSpec.upto fnSeqTwiceSpec)

/-- 'laws.FnUnwrapNext', WHERE WHAT IT READS IS OF BULK AT MOST 1048576: true; the input reads as it did. -/
def fnUnwrapNextUptoRow : OpenClaim := { program := "ytenfibgcepcbgaa", sum := "a42312520b8d00cd6c77b14d51a8700e024e1fff8d0bb936df79255049a28325", func := "loop.example/g00559/laws.FnUnwrapNext", spec := "fnUnwrapNext", apart := false, narrowed := true }
def FnUnwrapNextUptoSaid : Prop := fnUnwrapNextUptoRow.holds Try.pinned (OpenSpec.upto fnUnwrapNextSpec)

/-- 'laws.FnExactPutBe', WHERE WHAT IT READS IS OF BULK AT MOST 1048576: true; the input reads as it did. -/
def fnExactPutBeUptoRow : OpenClaim := { program := "ytenfibgcepcbgaa", sum := "a42312520b8d00cd6c77b14d51a8700e024e1fff8d0bb936df79255049a28325", func := "loop.example/g00559/laws.FnExactPutBe", spec := "fnExactPutBe", apart := false, narrowed := true }
def FnExactPutBeUptoSaid : Prop := fnExactPutBeUptoRow.holds Try.pinned (OpenSpec.upto fnExactPutBeSpec)

/-- 'laws.FnExactGetBe', WHERE WHAT IT READS IS OF BULK AT MOST 1048576: true; the input reads as it did. -/
def fnExactGetBeUptoRow : OpenClaim := { program := "ytenfibgcepcbgaa", sum := "a42312520b8d00cd6c77b14d51a8700e024e1fff8d0bb936df79255049a28325", func := "loop.example/g00559/laws.FnExactGetBe", spec := "fnExactGetBe", apart := false, narrowed := true }
def FnExactGetBeUptoSaid : Prop := fnExactGetBeUptoRow.holds Try.pinned (OpenSpec.upto fnExactGetBeSpec)

/-- 'laws.FnExactPutLe', WHERE WHAT IT READS IS OF BULK AT MOST 1048576: true; the input reads as it did. -/
def fnExactPutLeUptoRow : OpenClaim := { program := "ytenfibgcepcbgaa", sum := "a42312520b8d00cd6c77b14d51a8700e024e1fff8d0bb936df79255049a28325", func := "loop.example/g00559/laws.FnExactPutLe", spec := "fnExactPutLe", apart := false, narrowed := true }
def FnExactPutLeUptoSaid : Prop := fnExactPutLeUptoRow.holds Try.pinned (OpenSpec.upto fnExactPutLeSpec)

/-- 'laws.FnExactGetLe', WHERE WHAT IT READS IS OF BULK AT MOST 1048576: true; the input reads as it did. -/
def fnExactGetLeUptoRow : OpenClaim := { program := "ytenfibgcepcbgaa", sum := "a42312520b8d00cd6c77b14d51a8700e024e1fff8d0bb936df79255049a28325", func := "loop.example/g00559/laws.FnExactGetLe", spec := "fnExactGetLe", apart := false, narrowed := true }
def FnExactGetLeUptoSaid : Prop := fnExactGetLeUptoRow.holds Try.pinned (OpenSpec.upto fnExactGetLeSpec)

/-- 'laws.FnExactSum16', WHERE WHAT IT READS IS OF BULK AT MOST 1048576: true; the input reads as it did. -/
def fnExactSum16UptoRow : OpenClaim := { program := "ytenfibgcepcbgaa", sum := "a42312520b8d00cd6c77b14d51a8700e024e1fff8d0bb936df79255049a28325", func := "loop.example/g00559/laws.FnExactSum16", spec := "fnExactSum16", apart := false, narrowed := true }
def FnExactSum16UptoSaid : Prop := fnExactSum16UptoRow.holds Try.pinned (OpenSpec.upto fnExactSum16Spec)

/-- 'laws.FnExactSeqAdd', WHERE WHAT IT READS IS OF BULK AT MOST 1048576: true; the input reads as it did. -/
def fnExactSeqAddUptoRow : OpenClaim := { program := "ytenfibgcepcbgaa", sum := "a42312520b8d00cd6c77b14d51a8700e024e1fff8d0bb936df79255049a28325", func := "loop.example/g00559/laws.FnExactSeqAdd", spec := "fnExactSeqAdd", apart := false, narrowed := true }
def FnExactSeqAddUptoSaid : Prop := fnExactSeqAddUptoRow.holds Try.pinned (OpenSpec.upto fnExactSeqAddSpec)

/-- 'laws.FnExactSeqDiff', WHERE WHAT IT READS IS OF BULK AT MOST 1048576: true; the input reads as it did. -/
def fnExactSeqDiffUptoRow : OpenClaim := { program := "ytenfibgcepcbgaa", sum := "a42312520b8d00cd6c77b14d51a8700e024e1fff8d0bb936df79255049a28325", func := "loop.example/g00559/laws.FnExactSeqDiff", spec := "fnExactSeqDiff", apart := false, narrowed := true }
def FnExactSeqDiffUptoSaid : Prop := fnExactSeqDiffUptoRow.holds Try.pinned (OpenSpec.upto fnExactSeqDiffSpec)

/-- 'laws.FnExactUnwrap', WHERE WHAT IT READS IS OF BULK AT MOST 1048576: true; the input reads as it did. -/
def fnExactUnwrapUptoRow : OpenClaim := { program := "ytenfibgcepcbgaa", sum := "a42312520b8d00cd6c77b14d51a8700e024e1fff8d0bb936df79255049a28325", func := "loop.example/g00559/laws.FnExactUnwrap", spec := "fnExactUnwrap", apart := false, narrowed := true }
def FnExactUnwrapUptoSaid : Prop := fnExactUnwrapUptoRow.holds Try.pinned (OpenSpec.upto fnExactUnwrapSpec)

end Rows
end Go.Proofs.Ytenfibgcepcbgaa
