/-
  No cell of these rows narrows 'for every input' (looked for: loops, veiled, ifaces, maps, wideKeys, modest, calm, conditions, laid).
  DERIVED. THE GIVEN ROWS OF THIS SEAT. 6 by the template 'for every input the law returns true; each argument reads behind the call as it read before'; 0 by the template 'total and deterministic' (their statements: YthnmkghaejapjaaTotals.lean).
  GIVEN WITH THE SEED: the statements are not yours to turn. If you find one false, say at which input.
  Laid BY PROGRAM, IN A SANDBOX (cutbox-rows.mjs): the forced cells as the released guide's own fill.sh prints them over the translation c81b065c173b0204… (all of the seat's roots in one cut). By AI agents, Wed Nov 11 2026. No macro, syntax, notation, axiom, sorry.
-/
import Derived.Test.YthnmkghaejapjaaChecked
import GoSem.Claim
import GoSem.ClaimJoined
import GoSem.ClaimMapViews
import Derived.JoinedTies
import Derived.KernelRfl
namespace Go.Proofs.Ythnmkghaejapjaa
/- THE CELL 'sum', in the pinned program and in every row, IS THE sha256 OF THE DUMP (.gsa) THAT YthnmkghaejapjaaProg.lean LOADS. Nothing in Lean hashes anything: it is a label: what it is worth is what the hold of that sum in a sandbox is worth. -/
noncomputable def Try.pinned : Pinned := { name := "ythnmkghaejapjaa", sum := "c81b065c173b0204dfd7f1b8da59ceb39adb8c93449b5d1a32d108aa5fca929a", checked := Try.checked }
namespace Rows
def none {H : Type} : Left H := { results := [], args := [] }

/-- 'laws.FnRtt': WHATEVER THE INPUT: true; the input reads as it did. -/
def fnRttSpec : ChangeSpec := { name := "fnRtt", fn := fun _ => fun
  | [d] => { results := [.lit (.bool true)], args := [d] }
  | _ => none }
def fnRttRow : OpenClaim := { program := "ythnmkghaejapjaa", sum := "c81b065c173b0204dfd7f1b8da59ceb39adb8c93449b5d1a32d108aa5fca929a", func := "loop.example/g00559/laws.FnRtt", spec := "fnRtt", unfollowed := true, recurses := true, apart := false }
def FnRttSaid : Prop := fnRttRow.holds Try.pinned (OpenSpec.ofChange fnRttSpec)

/-- ITS FALSE NEIGHBOUR: 'it returns false'. Refute it at one input. -/
def fnRttWrong : ChangeSpec := { name := "fnRtt", fn := fun _ => fun
  | [d] => { results := [.lit (.bool false)], args := [d] }
  | _ => none }
def FnRttWrongFalsely : Prop := fnRttRow.holds Try.pinned (OpenSpec.ofChange fnRttWrong)

/-- 'laws.FnLate': WHATEVER THE INPUT: true; the input reads as it did. -/
def fnLateSpec : ChangeSpec := { name := "fnLate", fn := fun _ => fun
  | [d] => { results := [.lit (.bool true)], args := [d] }
  | _ => none }
def fnLateRow : OpenClaim := { program := "ythnmkghaejapjaa", sum := "c81b065c173b0204dfd7f1b8da59ceb39adb8c93449b5d1a32d108aa5fca929a", func := "loop.example/g00559/laws.FnLate", spec := "fnLate", apart := false }
def FnLateSaid : Prop := fnLateRow.holds Try.pinned (OpenSpec.ofChange fnLateSpec)

/-- ITS FALSE NEIGHBOUR: 'it returns false'. Refute it at one input. -/
def fnLateWrong : ChangeSpec := { name := "fnLate", fn := fun _ => fun
  | [d] => { results := [.lit (.bool false)], args := [d] }
  | _ => none }
def FnLateWrongFalsely : Prop := fnLateRow.holds Try.pinned (OpenSpec.ofChange fnLateWrong)

/-- 'laws.FnExactRttNew': WHATEVER THE INPUT: true; the input reads as it did. -/
def fnExactRttNewSpec : ChangeSpec := { name := "fnExactRttNew", fn := fun _ => fun
  | [] => { results := [.lit (.bool true)], args := [] }
  | _ => none }
def fnExactRttNewRow : OpenClaim := { program := "ythnmkghaejapjaa", sum := "c81b065c173b0204dfd7f1b8da59ceb39adb8c93449b5d1a32d108aa5fca929a", func := "loop.example/g00559/laws.FnExactRttNew", spec := "fnExactRttNew", apart := false }
def FnExactRttNewSaid : Prop := fnExactRttNewRow.holds Try.pinned (OpenSpec.ofChange fnExactRttNewSpec)

/-- ITS FALSE NEIGHBOUR: 'it returns false'. Refute it at one input. -/
def fnExactRttNewWrong : ChangeSpec := { name := "fnExactRttNew", fn := fun _ => fun
  | [] => { results := [.lit (.bool false)], args := [] }
  | _ => none }
def FnExactRttNewWrongFalsely : Prop := fnExactRttNewRow.holds Try.pinned (OpenSpec.ofChange fnExactRttNewWrong)

/-- 'laws.FnExactRttOk': WHATEVER THE INPUT: true; the input reads as it did. -/
def fnExactRttOkSpec : ChangeSpec := { name := "fnExactRttOk", fn := fun _ => fun
  | [d] => { results := [.lit (.bool true)], args := [d] }
  | _ => none }
def fnExactRttOkRow : OpenClaim := { program := "ythnmkghaejapjaa", sum := "c81b065c173b0204dfd7f1b8da59ceb39adb8c93449b5d1a32d108aa5fca929a", func := "loop.example/g00559/laws.FnExactRttOk", spec := "fnExactRttOk", apart := false }
def FnExactRttOkSaid : Prop := fnExactRttOkRow.holds Try.pinned (OpenSpec.ofChange fnExactRttOkSpec)

/-- ITS FALSE NEIGHBOUR: 'it returns false'. Refute it at one input. -/
def fnExactRttOkWrong : ChangeSpec := { name := "fnExactRttOk", fn := fun _ => fun
  | [d] => { results := [.lit (.bool false)], args := [d] }
  | _ => none }
def FnExactRttOkWrongFalsely : Prop := fnExactRttOkRow.holds Try.pinned (OpenSpec.ofChange fnExactRttOkWrong)

/-- 'laws.FnExactRttStep': WHATEVER THE INPUT: true; the input reads as it did. -/
def fnExactRttStepSpec : ChangeSpec := { name := "fnExactRttStep", fn := fun _ => fun
  | [d1, d2] => { results := [.lit (.bool true)], args := [d1, d2] }
  | _ => none }
def fnExactRttStepRow : OpenClaim := { program := "ythnmkghaejapjaa", sum := "c81b065c173b0204dfd7f1b8da59ceb39adb8c93449b5d1a32d108aa5fca929a", func := "loop.example/g00559/laws.FnExactRttStep", spec := "fnExactRttStep", unfollowed := true, recurses := true, apart := false }
def FnExactRttStepSaid : Prop := fnExactRttStepRow.holds Try.pinned (OpenSpec.ofChange fnExactRttStepSpec)

/-- ITS FALSE NEIGHBOUR: 'it returns false'. Refute it at one input. -/
def fnExactRttStepWrong : ChangeSpec := { name := "fnExactRttStep", fn := fun _ => fun
  | [d1, d2] => { results := [.lit (.bool false)], args := [d1, d2] }
  | _ => none }
def FnExactRttStepWrongFalsely : Prop := fnExactRttStepRow.holds Try.pinned (OpenSpec.ofChange fnExactRttStepWrong)

/-- 'laws.FnExactRttLate': WHATEVER THE INPUT: true; the input reads as it did. -/
def fnExactRttLateSpec : ChangeSpec := { name := "fnExactRttLate", fn := fun _ => fun
  | [d] => { results := [.lit (.bool true)], args := [d] }
  | _ => none }
def fnExactRttLateRow : OpenClaim := { program := "ythnmkghaejapjaa", sum := "c81b065c173b0204dfd7f1b8da59ceb39adb8c93449b5d1a32d108aa5fca929a", func := "loop.example/g00559/laws.FnExactRttLate", spec := "fnExactRttLate", apart := false }
def FnExactRttLateSaid : Prop := fnExactRttLateRow.holds Try.pinned (OpenSpec.ofChange fnExactRttLateSpec)

/-- ITS FALSE NEIGHBOUR: 'it returns false'. Refute it at one input. -/
def fnExactRttLateWrong : ChangeSpec := { name := "fnExactRttLate", fn := fun _ => fun
  | [d] => { results := [.lit (.bool false)], args := [d] }
  | _ => none }
def FnExactRttLateWrongFalsely : Prop := fnExactRttLateRow.holds Try.pinned (OpenSpec.ofChange fnExactRttLateWrong)

/- THE SECOND FORM. 'bulk': how many values and letters a reading holds, each counted each time it is reached (what is shared counts as often as it is met; a slice's spare places count too). A statement '..UptoSaid' is the law's where the arguments, and the package variables that the reading takes, are together of bulk at most 1048576: NARROWER than '..Said'. Prove '..Said' where nothing that the law and all that it calls make is longer than what came in: it says more and counts as full. Else prove '..UptoSaid'. A law counts once. -/
mutual
def uptoBulk {H : Type} : DataW H → Nat
  | .lit (.string bytes) => bytes.length + 1
  | .lit _ => 1
  | .nil => 1
  | .ptr d => uptoBulk d + 1
  | .slice elems spare => uptoBulkAll elems + uptoBulkAll spare + 1
  | .agg parts => uptoBulkAll parts + 1
  | .iface _ d => uptoBulk d + 1
  | .map entries => uptoBulkEntries entries + 1
  | .held _ => 1
def uptoBulkAll {H : Type} : List (DataW H) → Nat
  | [] => 0
  | d :: r => uptoBulk d + uptoBulkAll r
def uptoBulkEntries {H : Type} : List (Lit × DataW H) → Nat
  | [] => 0
  | x :: r => uptoBulkEntry x + uptoBulkEntries r
def uptoBulkEntry {H : Type} : Lit × DataW H → Nat
  | (.string bytes, d) => bytes.length + uptoBulk d + 1
  | (_, d) => uptoBulk d + 1
 end
def uptoSmall : (H : Type) → List (DataW H) → Bool := fun _ ds => decide (uptoBulkAll ds ≤ 1048576)
def OpenSpec.upto (s : _root_.Go.ChangeSpec) : _root_.Go.OpenSpec := { _root_.Go.OpenSpec.ofChange s with cond := some uptoSmall }

/-- 'laws.FnRtt', WHERE WHAT IT READS IS OF BULK AT MOST 1048576: true; the input reads as it did. -/
def fnRttUptoRow : OpenClaim := { program := "ythnmkghaejapjaa", sum := "c81b065c173b0204dfd7f1b8da59ceb39adb8c93449b5d1a32d108aa5fca929a", func := "loop.example/g00559/laws.FnRtt", spec := "fnRtt", unfollowed := true, recurses := true, apart := false, narrowed := true }
def FnRttUptoSaid : Prop := fnRttUptoRow.holds Try.pinned (OpenSpec.upto fnRttSpec)

/-- 'laws.FnLate', WHERE WHAT IT READS IS OF BULK AT MOST 1048576: true; the input reads as it did. -/
def fnLateUptoRow : OpenClaim := { program := "ythnmkghaejapjaa", sum := "c81b065c173b0204dfd7f1b8da59ceb39adb8c93449b5d1a32d108aa5fca929a", func := "loop.example/g00559/laws.FnLate", spec := "fnLate", apart := false, narrowed := true }
def FnLateUptoSaid : Prop := fnLateUptoRow.holds Try.pinned (OpenSpec.upto fnLateSpec)

/-- 'laws.FnExactRttNew', WHERE WHAT IT READS IS OF BULK AT MOST 1048576: true; the input reads as it did. -/
def fnExactRttNewUptoRow : OpenClaim := { program := "ythnmkghaejapjaa", sum := "c81b065c173b0204dfd7f1b8da59ceb39adb8c93449b5d1a32d108aa5fca929a", func := "loop.example/g00559/laws.FnExactRttNew", spec := "fnExactRttNew", apart := false, narrowed := true }
def FnExactRttNewUptoSaid : Prop := fnExactRttNewUptoRow.holds Try.pinned (OpenSpec.upto fnExactRttNewSpec)

/-- 'laws.FnExactRttOk', WHERE WHAT IT READS IS OF BULK AT MOST 1048576: true; the input reads as it did. -/
def fnExactRttOkUptoRow : OpenClaim := { program := "ythnmkghaejapjaa", sum := "c81b065c173b0204dfd7f1b8da59ceb39adb8c93449b5d1a32d108aa5fca929a", func := "loop.example/g00559/laws.FnExactRttOk", spec := "fnExactRttOk", apart := false, narrowed := true }
def FnExactRttOkUptoSaid : Prop := fnExactRttOkUptoRow.holds Try.pinned (OpenSpec.upto fnExactRttOkSpec)

/-- 'laws.FnExactRttStep', WHERE WHAT IT READS IS OF BULK AT MOST 1048576: true; the input reads as it did. -/
def fnExactRttStepUptoRow : OpenClaim := { program := "ythnmkghaejapjaa", sum := "c81b065c173b0204dfd7f1b8da59ceb39adb8c93449b5d1a32d108aa5fca929a", func := "loop.example/g00559/laws.FnExactRttStep", spec := "fnExactRttStep", unfollowed := true, recurses := true, apart := false, narrowed := true }
def FnExactRttStepUptoSaid : Prop := fnExactRttStepUptoRow.holds Try.pinned (OpenSpec.upto fnExactRttStepSpec)

/-- 'laws.FnExactRttLate', WHERE WHAT IT READS IS OF BULK AT MOST 1048576: true; the input reads as it did. -/
def fnExactRttLateUptoRow : OpenClaim := { program := "ythnmkghaejapjaa", sum := "c81b065c173b0204dfd7f1b8da59ceb39adb8c93449b5d1a32d108aa5fca929a", func := "loop.example/g00559/laws.FnExactRttLate", spec := "fnExactRttLate", apart := false, narrowed := true }
def FnExactRttLateUptoSaid : Prop := fnExactRttLateUptoRow.holds Try.pinned (OpenSpec.upto fnExactRttLateSpec)

end Rows
end Go.Proofs.Ythnmkghaejapjaa
