/-
  No cell of these rows narrows 'for every input' (looked for: loops, veiled, ifaces, maps, wideKeys, modest, calm, conditions, laid).
  DERIVED. THE GIVEN ROWS OF THIS SEAT. 4 by the template 'for every input the law returns true; each argument reads behind the call as it read before'; 0 by the template 'total and deterministic' (their statements: YtefpnbmjcailgaaTotals.lean).
  GIVEN WITH THE SEED: the statements are not yours to turn. If you find one false, say at which input.
  Laid BY PROGRAM, IN A SANDBOX (cutbox-rows.mjs): the forced cells as the released guide's own fill.sh prints them over the translation f1d22cfa0782bbbb… (all of the seat's roots in one cut). By AI agents, Wed Nov 11 2026. No macro, syntax, notation, axiom, sorry.
-/
import Derived.Test.YtefpnbmjcailgaaChecked
import GoSem.Claim
import GoSem.ClaimJoined
import GoSem.ClaimMapViews
import Derived.JoinedTies
import Derived.KernelRfl
namespace Go.Proofs.Ytefpnbmjcailgaa
/- THE CELL 'sum', in the pinned program and in every row, IS THE sha256 OF THE DUMP (.gsa) THAT YtefpnbmjcailgaaProg.lean LOADS. Nothing in Lean hashes anything: it is a label: what it is worth is what the hold of that sum in a sandbox is worth. -/
noncomputable def Try.pinned : Pinned := { name := "ytefpnbmjcailgaa", sum := "f1d22cfa0782bbbbbe45a67e26074fdbe948d5fcbbdbed816193bf0e95cc5cd2", checked := Try.checked }
namespace Rows
def none {H : Type} : Left H := { results := [], args := [] }

/-- 'laws.FnExactOptsBytes': WHATEVER THE INPUT: true; the input reads as it did. -/
def fnExactOptsBytesSpec : ChangeSpec := { name := "fnExactOptsBytes", fn := fun _ => fun
  | [d] => { results := [.lit (.bool true)], args := [d] }
  | _ => none }
def fnExactOptsBytesRow : OpenClaim := { program := "ytefpnbmjcailgaa", sum := "f1d22cfa0782bbbbbe45a67e26074fdbe948d5fcbbdbed816193bf0e95cc5cd2", func := "loop.example/g00559/laws.FnExactOptsBytes", spec := "fnExactOptsBytes", inPlace := ["internal/abi.NoEscape"], apart := false }
def FnExactOptsBytesSaid : Prop := fnExactOptsBytesRow.holds Try.pinned (OpenSpec.ofChange fnExactOptsBytesSpec)

/-- ITS FALSE NEIGHBOUR: 'it returns false'. Refute it at one input. -/
def fnExactOptsBytesWrong : ChangeSpec := { name := "fnExactOptsBytes", fn := fun _ => fun
  | [d] => { results := [.lit (.bool false)], args := [d] }
  | _ => none }
def FnExactOptsBytesWrongFalsely : Prop := fnExactOptsBytesRow.holds Try.pinned (OpenSpec.ofChange fnExactOptsBytesWrong)

/-- 'laws.FnExactReadOpts': WHATEVER THE INPUT: true; the input reads as it did. -/
def fnExactReadOptsSpec : ChangeSpec := { name := "fnExactReadOpts", fn := fun _ => fun
  | [d] => { results := [.lit (.bool true)], args := [d] }
  | _ => none }
def fnExactReadOptsRow : OpenClaim := { program := "ytefpnbmjcailgaa", sum := "f1d22cfa0782bbbbbe45a67e26074fdbe948d5fcbbdbed816193bf0e95cc5cd2", func := "loop.example/g00559/laws.FnExactReadOpts", spec := "fnExactReadOpts", unfollowed := true, recurses := true, apart := false }
def FnExactReadOptsSaid : Prop := fnExactReadOptsRow.holds Try.pinned (OpenSpec.ofChange fnExactReadOptsSpec)

/-- ITS FALSE NEIGHBOUR: 'it returns false'. Refute it at one input. -/
def fnExactReadOptsWrong : ChangeSpec := { name := "fnExactReadOpts", fn := fun _ => fun
  | [d] => { results := [.lit (.bool false)], args := [d] }
  | _ => none }
def FnExactReadOptsWrongFalsely : Prop := fnExactReadOptsRow.holds Try.pinned (OpenSpec.ofChange fnExactReadOptsWrong)

/-- 'laws.FnOptions': WHATEVER THE INPUT: true; the input reads as it did. -/
def fnOptionsSpec : ChangeSpec := { name := "fnOptions", fn := fun _ => fun
  | [d] => { results := [.lit (.bool true)], args := [d] }
  | _ => none }
def fnOptionsRow : OpenClaim := { program := "ytefpnbmjcailgaa", sum := "f1d22cfa0782bbbbbe45a67e26074fdbe948d5fcbbdbed816193bf0e95cc5cd2", func := "loop.example/g00559/laws.FnOptions", spec := "fnOptions", inPlace := ["internal/abi.NoEscape"], unfollowed := true, recurses := true, apart := false }
def FnOptionsSaid : Prop := fnOptionsRow.holds Try.pinned (OpenSpec.ofChange fnOptionsSpec)

/-- ITS FALSE NEIGHBOUR: 'it returns false'. Refute it at one input. -/
def fnOptionsWrong : ChangeSpec := { name := "fnOptions", fn := fun _ => fun
  | [d] => { results := [.lit (.bool false)], args := [d] }
  | _ => none }
def FnOptionsWrongFalsely : Prop := fnOptionsRow.holds Try.pinned (OpenSpec.ofChange fnOptionsWrong)

/-- 'laws.FnOptsJoined': WHATEVER THE INPUT: true; the input reads as it did. -/
def fnOptsJoinedSpec : ChangeSpec := { name := "fnOptsJoined", fn := fun _ => fun
  | [d] => { results := [.lit (.bool true)], args := [d] }
  | _ => none }
def fnOptsJoinedRow : OpenClaim := { program := "ytefpnbmjcailgaa", sum := "f1d22cfa0782bbbbbe45a67e26074fdbe948d5fcbbdbed816193bf0e95cc5cd2", func := "loop.example/g00559/laws.FnOptsJoined", spec := "fnOptsJoined", inPlace := ["internal/abi.NoEscape"], unfollowed := true, recurses := true, apart := false }
def FnOptsJoinedSaid : Prop := fnOptsJoinedRow.holds Try.pinned (OpenSpec.ofChange fnOptsJoinedSpec)

/-- ITS FALSE NEIGHBOUR: 'it returns false'. Refute it at one input. -/
def fnOptsJoinedWrong : ChangeSpec := { name := "fnOptsJoined", fn := fun _ => fun
  | [d] => { results := [.lit (.bool false)], args := [d] }
  | _ => none }
def FnOptsJoinedWrongFalsely : Prop := fnOptsJoinedRow.holds Try.pinned (OpenSpec.ofChange fnOptsJoinedWrong)

/- THE SECOND FORM. 'bulk': how many values and letters a reading holds, each counted each time it is reached (what is shared counts as often as it is met; a slice's spare places count too). A statement '..UptoSaid' is the law's where the arguments, and the package variables that the reading takes, are together of bulk at most 1048576: NARROWER than '..Said'. Prove '..Said' where nothing that the law and all that it calls make is longer than what came in: it says more and counts as full. Else prove '..UptoSaid'. A law counts once. -/
mutual
def uptoBulk {H : Type} : DataW H → Nat
  | .lit (.string bytes) => bytes.length + 1
  | .lit _ => 1
  | .nil => 1
  | .ptr d => uptoBulk d + 1
  | .slice elems spare => uptoBulkAll elems + uptoBulkAll spare + 1
  | .agg parts => uptoBulkAll parts + 1
  | .iface _ d => uptoBulk d + 1
  | .map entries => uptoBulkEntries entries + 1
  | .held _ => 1
def uptoBulkAll {H : Type} : List (DataW H) → Nat
  | [] => 0
  | d :: r => uptoBulk d + uptoBulkAll r
def uptoBulkEntries {H : Type} : List (Lit × DataW H) → Nat
  | [] => 0
  | x :: r => uptoBulkEntry x + uptoBulkEntries r
def uptoBulkEntry {H : Type} : Lit × DataW H → Nat
  | (.string bytes, d) => bytes.length + uptoBulk d + 1
  | (_, d) => uptoBulk d + 1
 end
def uptoSmall : (H : Type) → List (DataW H) → Bool := fun _ ds => decide (uptoBulkAll ds ≤ 1048576)
def OpenSpec.upto (s : _root_.Go.ChangeSpec) : _root_.Go.OpenSpec := { _root_.Go.OpenSpec.ofChange s with cond := some uptoSmall }

/-- 'laws.FnExactOptsBytes', WHERE WHAT IT READS IS OF BULK AT MOST 1048576: true; the input reads as it did. -/
def fnExactOptsBytesUptoRow : OpenClaim := { program := "ytefpnbmjcailgaa", sum := "f1d22cfa0782bbbbbe45a67e26074fdbe948d5fcbbdbed816193bf0e95cc5cd2", func := "loop.example/g00559/laws.FnExactOptsBytes", spec := "fnExactOptsBytes", inPlace := ["internal/abi.NoEscape"], apart := false, narrowed := true }
def FnExactOptsBytesUptoSaid : Prop := fnExactOptsBytesUptoRow.holds Try.pinned (OpenSpec.upto fnExactOptsBytesSpec)

/-- 'laws.FnExactReadOpts', WHERE WHAT IT READS IS OF BULK AT MOST 1048576: true; the input reads as it did. -/
def fnExactReadOptsUptoRow : OpenClaim := { program := "ytefpnbmjcailgaa", sum := "f1d22cfa0782bbbbbe45a67e26074fdbe948d5fcbbdbed816193bf0e95cc5cd2", func := "loop.example/g00559/laws.FnExactReadOpts", spec := "fnExactReadOpts", unfollowed := true, recurses := true, apart := false, narrowed := true }
def FnExactReadOptsUptoSaid : Prop := fnExactReadOptsUptoRow.holds Try.pinned (OpenSpec.upto fnExactReadOptsSpec)

/-- 'laws.FnOptions', WHERE WHAT IT READS IS OF BULK AT MOST 1048576: true; the input reads as it did. -/
def fnOptionsUptoRow : OpenClaim := { program := "ytefpnbmjcailgaa", sum := "f1d22cfa0782bbbbbe45a67e26074fdbe948d5fcbbdbed816193bf0e95cc5cd2", func := "loop.example/g00559/laws.FnOptions", spec := "fnOptions", inPlace := ["internal/abi.NoEscape"], unfollowed := true, recurses := true, apart := false, narrowed := true }
def FnOptionsUptoSaid : Prop := fnOptionsUptoRow.holds Try.pinned (OpenSpec.upto fnOptionsSpec)

/-- 'laws.FnOptsJoined', WHERE WHAT IT READS IS OF BULK AT MOST 1048576: true; the input reads as it did. -/
def fnOptsJoinedUptoRow : OpenClaim := { program := "ytefpnbmjcailgaa", sum := "f1d22cfa0782bbbbbe45a67e26074fdbe948d5fcbbdbed816193bf0e95cc5cd2", func := "loop.example/g00559/laws.FnOptsJoined", spec := "fnOptsJoined", inPlace := ["internal/abi.NoEscape"], unfollowed := true, recurses := true, apart := false, narrowed := true }
def FnOptsJoinedUptoSaid : Prop := fnOptsJoinedUptoRow.holds Try.pinned (OpenSpec.upto fnOptsJoinedSpec)

end Rows
end Go.Proofs.Ytefpnbmjcailgaa
