/-
  No cell of these rows narrows 'for every input' (looked for: loops, veiled, ifaces, maps, wideKeys, modest, calm, conditions, laid).
  DERIVED. THE GIVEN ROWS OF THIS SEAT. 9 by the template 'for every input the law returns true; each argument reads behind the call as it read before'; 0 by the template 'total and deterministic' (their statements: YteicihinpjjllaaTotals.lean).
  GIVEN WITH THE SEED: the statements are not yours to turn. If you find one false, say at which input.
  Laid BY PROGRAM, IN A SANDBOX (cutbox-rows.mjs): the forced cells as the released guide's own fill.sh prints them over the translation 1f2e9dd4deeb4f3c… (all of the seat's roots in one cut). By AI agents, Wed Nov 11 2026. No macro, syntax, notation, axiom, sorry.
-/
import Derived.Test.YteicihinpjjllaaChecked
import GoSem.Claim
import GoSem.ClaimJoined
import GoSem.ClaimMapViews
import Derived.JoinedTies
import Derived.KernelRfl
namespace Go.Proofs.Yteicihinpjjllaa
/- THE CELL 'sum', in the pinned program and in every row, IS THE sha256 OF THE DUMP (.gsa) THAT YteicihinpjjllaaProg.lean LOADS. Nothing in Lean hashes anything: it is a label: what it is worth is what the hold of that sum in a sandbox is worth. -/
noncomputable def Try.pinned : Pinned := { name := "yteicihinpjjllaa", sum := "1f2e9dd4deeb4f3cd6331b513af5cc41754a88465d19a19466534f665025fc03", checked := Try.checked }
namespace Rows
def none {H : Type} : Left H := { results := [], args := [] }

/-- 'laws.FnReno': WHATEVER THE INPUT: true; the input reads as it did. -/
def fnRenoSpec : ChangeSpec := { name := "fnReno", fn := fun _ => fun
  | [d] => { results := [.lit (.bool true)], args := [d] }
  | _ => none }
def fnRenoRow : OpenClaim := { program := "yteicihinpjjllaa", sum := "1f2e9dd4deeb4f3cd6331b513af5cc41754a88465d19a19466534f665025fc03", func := "loop.example/g00559/laws.FnReno", spec := "fnReno", unfollowed := true, recurses := true, apart := false }
def FnRenoSaid : Prop := fnRenoRow.holds Try.pinned (OpenSpec.ofChange fnRenoSpec)

/-- ITS FALSE NEIGHBOUR: 'it returns false'. Refute it at one input. -/
def fnRenoWrong : ChangeSpec := { name := "fnReno", fn := fun _ => fun
  | [d] => { results := [.lit (.bool false)], args := [d] }
  | _ => none }
def FnRenoWrongFalsely : Prop := fnRenoRow.holds Try.pinned (OpenSpec.ofChange fnRenoWrong)

/-- 'laws.FnGrows': WHATEVER THE INPUT: true; the input reads as it did. -/
def fnGrowsSpec : ChangeSpec := { name := "fnGrows", fn := fun _ => fun
  | [d] => { results := [.lit (.bool true)], args := [d] }
  | _ => none }
def fnGrowsRow : OpenClaim := { program := "yteicihinpjjllaa", sum := "1f2e9dd4deeb4f3cd6331b513af5cc41754a88465d19a19466534f665025fc03", func := "loop.example/g00559/laws.FnGrows", spec := "fnGrows", unfollowed := true, recurses := true, apart := false }
def FnGrowsSaid : Prop := fnGrowsRow.holds Try.pinned (OpenSpec.ofChange fnGrowsSpec)

/-- ITS FALSE NEIGHBOUR: 'it returns false'. Refute it at one input. -/
def fnGrowsWrong : ChangeSpec := { name := "fnGrows", fn := fun _ => fun
  | [d] => { results := [.lit (.bool false)], args := [d] }
  | _ => none }
def FnGrowsWrongFalsely : Prop := fnGrowsRow.holds Try.pinned (OpenSpec.ofChange fnGrowsWrong)

/-- 'laws.FnMends': WHATEVER THE INPUT: true; the input reads as it did. -/
def fnMendsSpec : ChangeSpec := { name := "fnMends", fn := fun _ => fun
  | [d] => { results := [.lit (.bool true)], args := [d] }
  | _ => none }
def fnMendsRow : OpenClaim := { program := "yteicihinpjjllaa", sum := "1f2e9dd4deeb4f3cd6331b513af5cc41754a88465d19a19466534f665025fc03", func := "loop.example/g00559/laws.FnMends", spec := "fnMends", unfollowed := true, recurses := true, apart := false }
def FnMendsSaid : Prop := fnMendsRow.holds Try.pinned (OpenSpec.ofChange fnMendsSpec)

/-- ITS FALSE NEIGHBOUR: 'it returns false'. Refute it at one input. -/
def fnMendsWrong : ChangeSpec := { name := "fnMends", fn := fun _ => fun
  | [d] => { results := [.lit (.bool false)], args := [d] }
  | _ => none }
def FnMendsWrongFalsely : Prop := fnMendsRow.holds Try.pinned (OpenSpec.ofChange fnMendsWrong)

/-- 'laws.FnRenoPlay': WHATEVER THE INPUT: true; the input reads as it did. -/
def fnRenoPlaySpec : ChangeSpec := { name := "fnRenoPlay", fn := fun _ => fun
  | [d] => { results := [.lit (.bool true)], args := [d] }
  | _ => none }
def fnRenoPlayRow : OpenClaim := { program := "yteicihinpjjllaa", sum := "1f2e9dd4deeb4f3cd6331b513af5cc41754a88465d19a19466534f665025fc03", func := "loop.example/g00559/laws.FnRenoPlay", spec := "fnRenoPlay", unfollowed := true, recurses := true, apart := false }
def FnRenoPlaySaid : Prop := fnRenoPlayRow.holds Try.pinned (OpenSpec.ofChange fnRenoPlaySpec)

/-- ITS FALSE NEIGHBOUR: 'it returns false'. Refute it at one input. -/
def fnRenoPlayWrong : ChangeSpec := { name := "fnRenoPlay", fn := fun _ => fun
  | [d] => { results := [.lit (.bool false)], args := [d] }
  | _ => none }
def FnRenoPlayWrongFalsely : Prop := fnRenoPlayRow.holds Try.pinned (OpenSpec.ofChange fnRenoPlayWrong)

/-- 'laws.FnLateTwice': WHATEVER THE INPUT: true; the input reads as it did. -/
def fnLateTwiceSpec : ChangeSpec := { name := "fnLateTwice", fn := fun _ => fun
  | [d] => { results := [.lit (.bool true)], args := [d] }
  | _ => none }
def fnLateTwiceRow : OpenClaim := { program := "yteicihinpjjllaa", sum := "1f2e9dd4deeb4f3cd6331b513af5cc41754a88465d19a19466534f665025fc03", func := "loop.example/g00559/laws.FnLateTwice", spec := "fnLateTwice", unfollowed := true, recurses := true, apart := false }
def FnLateTwiceSaid : Prop := fnLateTwiceRow.holds Try.pinned (OpenSpec.ofChange fnLateTwiceSpec)

/-- ITS FALSE NEIGHBOUR: 'it returns false'. Refute it at one input. -/
def fnLateTwiceWrong : ChangeSpec := { name := "fnLateTwice", fn := fun _ => fun
  | [d] => { results := [.lit (.bool false)], args := [d] }
  | _ => none }
def FnLateTwiceWrongFalsely : Prop := fnLateTwiceRow.holds Try.pinned (OpenSpec.ofChange fnLateTwiceWrong)

/-- 'laws.FnExactRenoNew': WHATEVER THE INPUT: true; the input reads as it did. -/
def fnExactRenoNewSpec : ChangeSpec := { name := "fnExactRenoNew", fn := fun _ => fun
  | [d1, d2] => { results := [.lit (.bool true)], args := [d1, d2] }
  | _ => none }
def fnExactRenoNewRow : OpenClaim := { program := "yteicihinpjjllaa", sum := "1f2e9dd4deeb4f3cd6331b513af5cc41754a88465d19a19466534f665025fc03", func := "loop.example/g00559/laws.FnExactRenoNew", spec := "fnExactRenoNew", apart := false }
def FnExactRenoNewSaid : Prop := fnExactRenoNewRow.holds Try.pinned (OpenSpec.ofChange fnExactRenoNewSpec)

/-- ITS FALSE NEIGHBOUR: 'it returns false'. Refute it at one input. -/
def fnExactRenoNewWrong : ChangeSpec := { name := "fnExactRenoNew", fn := fun _ => fun
  | [d1, d2] => { results := [.lit (.bool false)], args := [d1, d2] }
  | _ => none }
def FnExactRenoNewWrongFalsely : Prop := fnExactRenoNewRow.holds Try.pinned (OpenSpec.ofChange fnExactRenoNewWrong)

/-- 'laws.FnExactRenoOk': WHATEVER THE INPUT: true; the input reads as it did. -/
def fnExactRenoOkSpec : ChangeSpec := { name := "fnExactRenoOk", fn := fun _ => fun
  | [d] => { results := [.lit (.bool true)], args := [d] }
  | _ => none }
def fnExactRenoOkRow : OpenClaim := { program := "yteicihinpjjllaa", sum := "1f2e9dd4deeb4f3cd6331b513af5cc41754a88465d19a19466534f665025fc03", func := "loop.example/g00559/laws.FnExactRenoOk", spec := "fnExactRenoOk", apart := false }
def FnExactRenoOkSaid : Prop := fnExactRenoOkRow.holds Try.pinned (OpenSpec.ofChange fnExactRenoOkSpec)

/-- ITS FALSE NEIGHBOUR: 'it returns false'. Refute it at one input. -/
def fnExactRenoOkWrong : ChangeSpec := { name := "fnExactRenoOk", fn := fun _ => fun
  | [d] => { results := [.lit (.bool false)], args := [d] }
  | _ => none }
def FnExactRenoOkWrongFalsely : Prop := fnExactRenoOkRow.holds Try.pinned (OpenSpec.ofChange fnExactRenoOkWrong)

/-- 'laws.FnExactRenoStep': WHATEVER THE INPUT: true; the input reads as it did. -/
def fnExactRenoStepSpec : ChangeSpec := { name := "fnExactRenoStep", fn := fun _ => fun
  | [d1, d2] => { results := [.lit (.bool true)], args := [d1, d2] }
  | _ => none }
def fnExactRenoStepRow : OpenClaim := { program := "yteicihinpjjllaa", sum := "1f2e9dd4deeb4f3cd6331b513af5cc41754a88465d19a19466534f665025fc03", func := "loop.example/g00559/laws.FnExactRenoStep", spec := "fnExactRenoStep", unfollowed := true, recurses := true, apart := false }
def FnExactRenoStepSaid : Prop := fnExactRenoStepRow.holds Try.pinned (OpenSpec.ofChange fnExactRenoStepSpec)

/-- ITS FALSE NEIGHBOUR: 'it returns false'. Refute it at one input. -/
def fnExactRenoStepWrong : ChangeSpec := { name := "fnExactRenoStep", fn := fun _ => fun
  | [d1, d2] => { results := [.lit (.bool false)], args := [d1, d2] }
  | _ => none }
def FnExactRenoStepWrongFalsely : Prop := fnExactRenoStepRow.holds Try.pinned (OpenSpec.ofChange fnExactRenoStepWrong)

/-- 'laws.FnExactRenoPlay': WHATEVER THE INPUT: true; the input reads as it did. -/
def fnExactRenoPlaySpec : ChangeSpec := { name := "fnExactRenoPlay", fn := fun _ => fun
  | [d1, d2] => { results := [.lit (.bool true)], args := [d1, d2] }
  | _ => none }
def fnExactRenoPlayRow : OpenClaim := { program := "yteicihinpjjllaa", sum := "1f2e9dd4deeb4f3cd6331b513af5cc41754a88465d19a19466534f665025fc03", func := "loop.example/g00559/laws.FnExactRenoPlay", spec := "fnExactRenoPlay", unfollowed := true, recurses := true, apart := false }
def FnExactRenoPlaySaid : Prop := fnExactRenoPlayRow.holds Try.pinned (OpenSpec.ofChange fnExactRenoPlaySpec)

/-- ITS FALSE NEIGHBOUR: 'it returns false'. Refute it at one input. -/
def fnExactRenoPlayWrong : ChangeSpec := { name := "fnExactRenoPlay", fn := fun _ => fun
  | [d1, d2] => { results := [.lit (.bool false)], args := [d1, d2] }
  | _ => none }
def FnExactRenoPlayWrongFalsely : Prop := fnExactRenoPlayRow.holds Try.pinned (OpenSpec.ofChange fnExactRenoPlayWrong)

/- THE SECOND FORM. 'bulk': how many values and letters a reading holds, each counted each time it is reached (what is shared counts as often as it is met; a slice's spare places count too). A statement '..UptoSaid' is the law's where the arguments, and the package variables that the reading takes, are together of bulk at most 1048576: NARROWER than '..Said'. Prove '..Said' where nothing that the law and all that it calls make is longer than what came in: it says more and counts as full. Else prove '..UptoSaid'. A law counts once. -/
mutual
def uptoBulk {H : Type} : DataW H → Nat
  | .lit (.string bytes) => bytes.length + 1
  | .lit _ => 1
  | .nil => 1
  | .ptr d => uptoBulk d + 1
  | .slice elems spare => uptoBulkAll elems + uptoBulkAll spare + 1
  | .agg parts => uptoBulkAll parts + 1
  | .iface _ d => uptoBulk d + 1
  | .map entries => uptoBulkEntries entries + 1
  | .held _ => 1
def uptoBulkAll {H : Type} : List (DataW H) → Nat
  | [] => 0
  | d :: r => uptoBulk d + uptoBulkAll r
def uptoBulkEntries {H : Type} : List (Lit × DataW H) → Nat
  | [] => 0
  | x :: r => uptoBulkEntry x + uptoBulkEntries r
def uptoBulkEntry {H : Type} : Lit × DataW H → Nat
  | (.string bytes, d) => bytes.length + uptoBulk d + 1
  | (_, d) => uptoBulk d + 1
 end
def uptoSmall : (H : Type) → List (DataW H) → Bool := fun _ ds => decide (uptoBulkAll ds ≤ 1048576)
def OpenSpec.upto (s : _root_.Go.ChangeSpec) : _root_.Go.OpenSpec := { _root_.Go.OpenSpec.ofChange s with cond := some uptoSmall }

/-- 'laws.FnReno', WHERE WHAT IT READS IS OF BULK AT MOST 1048576: true; the input reads as it did. -/
def fnRenoUptoRow : OpenClaim := { program := "yteicihinpjjllaa", sum := "1f2e9dd4deeb4f3cd6331b513af5cc41754a88465d19a19466534f665025fc03", func := "loop.example/g00559/laws.FnReno", spec := "fnReno", unfollowed := true, recurses := true, apart := false, narrowed := true }
def FnRenoUptoSaid : Prop := fnRenoUptoRow.holds Try.pinned (OpenSpec.upto fnRenoSpec)

/-- 'laws.FnGrows', WHERE WHAT IT READS IS OF BULK AT MOST 1048576: true; the input reads as it did. -/
def fnGrowsUptoRow : OpenClaim := { program := "yteicihinpjjllaa", sum := "1f2e9dd4deeb4f3cd6331b513af5cc41754a88465d19a19466534f665025fc03", func := "loop.example/g00559/laws.FnGrows", spec := "fnGrows", unfollowed := true, recurses := true, apart := false, narrowed := true }
def FnGrowsUptoSaid : Prop := fnGrowsUptoRow.holds Try.pinned (OpenSpec.upto fnGrowsSpec)

/-- 'laws.FnMends', WHERE WHAT IT READS IS OF BULK AT MOST 1048576: true; the input reads as it did. -/
def fnMendsUptoRow : OpenClaim := { program := "yteicihinpjjllaa", sum := "1f2e9dd4deeb4f3cd6331b513af5cc41754a88465d19a19466534f665025fc03", func := "loop.example/g00559/laws.FnMends", spec := "fnMends", unfollowed := true, recurses := true, apart := false, narrowed := true }
def FnMendsUptoSaid : Prop := fnMendsUptoRow.holds Try.pinned (OpenSpec.upto fnMendsSpec)

/-- 'laws.FnRenoPlay', WHERE WHAT IT READS IS OF BULK AT MOST 1048576: true; the input reads as it did. -/
def fnRenoPlayUptoRow : OpenClaim := { program := "yteicihinpjjllaa", sum := "1f2e9dd4deeb4f3cd6331b513af5cc41754a88465d19a19466534f665025fc03", func := "loop.example/g00559/laws.FnRenoPlay", spec := "fnRenoPlay", unfollowed := true, recurses := true, apart := false, narrowed := true }
def FnRenoPlayUptoSaid : Prop := fnRenoPlayUptoRow.holds Try.pinned (OpenSpec.upto fnRenoPlaySpec)

/-- 'laws.FnLateTwice', WHERE WHAT IT READS IS OF BULK AT MOST 1048576: true; the input reads as it did. -/
def fnLateTwiceUptoRow : OpenClaim := { program := "yteicihinpjjllaa", sum := "1f2e9dd4deeb4f3cd6331b513af5cc41754a88465d19a19466534f665025fc03", func := "loop.example/g00559/laws.FnLateTwice", spec := "fnLateTwice", unfollowed := true, recurses := true, apart := false, narrowed := true }
def FnLateTwiceUptoSaid : Prop := fnLateTwiceUptoRow.holds Try.pinned (OpenSpec.upto fnLateTwiceSpec)

/-- 'laws.FnExactRenoNew', WHERE WHAT IT READS IS OF BULK AT MOST 1048576: true; the input reads as it did. -/
def fnExactRenoNewUptoRow : OpenClaim := { program := "yteicihinpjjllaa", sum := "1f2e9dd4deeb4f3cd6331b513af5cc41754a88465d19a19466534f665025fc03", func := "loop.example/g00559/laws.FnExactRenoNew", spec := "fnExactRenoNew", apart := false, narrowed := true }
def FnExactRenoNewUptoSaid : Prop := fnExactRenoNewUptoRow.holds Try.pinned (OpenSpec.upto fnExactRenoNewSpec)

/-- 'laws.FnExactRenoOk', WHERE WHAT IT READS IS OF BULK AT MOST 1048576: true; the input reads as it did. -/
def fnExactRenoOkUptoRow : OpenClaim := { program := "yteicihinpjjllaa", sum := "1f2e9dd4deeb4f3cd6331b513af5cc41754a88465d19a19466534f665025fc03", func := "loop.example/g00559/laws.FnExactRenoOk", spec := "fnExactRenoOk", apart := false, narrowed := true }
def FnExactRenoOkUptoSaid : Prop := fnExactRenoOkUptoRow.holds Try.pinned (OpenSpec.upto fnExactRenoOkSpec)

/-- 'laws.FnExactRenoStep', WHERE WHAT IT READS IS OF BULK AT MOST 1048576: true; the input reads as it did. -/
def fnExactRenoStepUptoRow : OpenClaim := { program := "yteicihinpjjllaa", sum := "1f2e9dd4deeb4f3cd6331b513af5cc41754a88465d19a19466534f665025fc03", func := "loop.example/g00559/laws.FnExactRenoStep", spec := "fnExactRenoStep", unfollowed := true, recurses := true, apart := false, narrowed := true }
def FnExactRenoStepUptoSaid : Prop := fnExactRenoStepUptoRow.holds Try.pinned (OpenSpec.upto fnExactRenoStepSpec)

/-- 'laws.FnExactRenoPlay', WHERE WHAT IT READS IS OF BULK AT MOST 1048576: true; the input reads as it did. -/
def fnExactRenoPlayUptoRow : OpenClaim := { program := "yteicihinpjjllaa", sum := "1f2e9dd4deeb4f3cd6331b513af5cc41754a88465d19a19466534f665025fc03", func := "loop.example/g00559/laws.FnExactRenoPlay", spec := "fnExactRenoPlay", unfollowed := true, recurses := true, apart := false, narrowed := true }
def FnExactRenoPlayUptoSaid : Prop := fnExactRenoPlayUptoRow.holds Try.pinned (OpenSpec.upto fnExactRenoPlaySpec)

end Rows
end Go.Proofs.Yteicihinpjjllaa
