/-
  No cell of these rows narrows 'for every input' (looked for: loops, veiled, ifaces, maps, wideKeys, modest, calm, conditions, laid).
  DERIVED. THE GIVEN ROWS OF THIS SEAT. 5 by the template 'for every input the law returns true; each argument reads behind the call as it read before'; 0 by the template 'total and deterministic' (their statements: YtcbaenndkljlpaaTotals.lean).
  GIVEN WITH THE SEED: the statements are not yours to turn. If you find one false, say at which input.
  Laid BY PROGRAM, IN A SANDBOX (cutbox-rows.mjs): the forced cells as the released guide's own fill.sh prints them over the translation 442510228cf265f0… (all of the seat's roots in one cut). By AI agents, Wed Nov 11 2026. No macro, syntax, notation, axiom, sorry.
-/
import Derived.Test.YtcbaenndkljlpaaChecked
import GoSem.Claim
import GoSem.ClaimJoined
import GoSem.ClaimMapViews
import Derived.JoinedTies
import Derived.KernelRfl
namespace Go.Proofs.Ytcbaenndkljlpaa
/- THE CELL 'sum', in the pinned program and in every row, IS THE sha256 OF THE DUMP (.gsa) THAT YtcbaenndkljlpaaProg.lean LOADS. Nothing in Lean hashes anything: it is a label: what it is worth is what the hold of that sum in a sandbox is worth. -/
noncomputable def Try.pinned : Pinned := { name := "ytcbaenndkljlpaa", sum := "442510228cf265f042b7ccdce9ba972638c36ee0bd18e06871b5c1268e3d94b8", checked := Try.checked }
namespace Rows
def none {H : Type} : Left H := { results := [], args := [] }

/-- 'laws.FnIps': WHATEVER THE INPUT: true; the input reads as it did. -/
def fnIpsSpec : ChangeSpec := { name := "fnIps", fn := fun _ => fun
  | [d] => { results := [.lit (.bool true)], args := [d] }
  | _ => none }
def fnIpsRow : OpenClaim := { program := "ytcbaenndkljlpaa", sum := "442510228cf265f042b7ccdce9ba972638c36ee0bd18e06871b5c1268e3d94b8", func := "loop.example/g00559/laws.FnIps", spec := "fnIps", inPlace := ["internal/abi.NoEscape"], unfollowed := true, recurses := true, apart := false }
def FnIpsSaid : Prop := fnIpsRow.holds Try.pinned (OpenSpec.ofChange fnIpsSpec)

/-- ITS FALSE NEIGHBOUR: 'it returns false'. Refute it at one input. -/
def fnIpsWrong : ChangeSpec := { name := "fnIps", fn := fun _ => fun
  | [d] => { results := [.lit (.bool false)], args := [d] }
  | _ => none }
def FnIpsWrongFalsely : Prop := fnIpsRow.holds Try.pinned (OpenSpec.ofChange fnIpsWrong)

/-- 'laws.FnTtl': WHATEVER THE INPUT: true; the input reads as it did. -/
def fnTtlSpec : ChangeSpec := { name := "fnTtl", fn := fun _ => fun
  | [d] => { results := [.lit (.bool true)], args := [d] }
  | _ => none }
def fnTtlRow : OpenClaim := { program := "ytcbaenndkljlpaa", sum := "442510228cf265f042b7ccdce9ba972638c36ee0bd18e06871b5c1268e3d94b8", func := "loop.example/g00559/laws.FnTtl", spec := "fnTtl", inPlace := ["internal/abi.NoEscape"], apart := false }
def FnTtlSaid : Prop := fnTtlRow.holds Try.pinned (OpenSpec.ofChange fnTtlSpec)

/-- ITS FALSE NEIGHBOUR: 'it returns false'. Refute it at one input. -/
def fnTtlWrong : ChangeSpec := { name := "fnTtl", fn := fun _ => fun
  | [d] => { results := [.lit (.bool false)], args := [d] }
  | _ => none }
def FnTtlWrongFalsely : Prop := fnTtlRow.holds Try.pinned (OpenSpec.ofChange fnTtlWrong)

/-- 'laws.FnExactIpOk': WHATEVER THE INPUT: true; the input reads as it did. -/
def fnExactIpOkSpec : ChangeSpec := { name := "fnExactIpOk", fn := fun _ => fun
  | [d] => { results := [.lit (.bool true)], args := [d] }
  | _ => none }
def fnExactIpOkRow : OpenClaim := { program := "ytcbaenndkljlpaa", sum := "442510228cf265f042b7ccdce9ba972638c36ee0bd18e06871b5c1268e3d94b8", func := "loop.example/g00559/laws.FnExactIpOk", spec := "fnExactIpOk", apart := false }
def FnExactIpOkSaid : Prop := fnExactIpOkRow.holds Try.pinned (OpenSpec.ofChange fnExactIpOkSpec)

/-- ITS FALSE NEIGHBOUR: 'it returns false'. Refute it at one input. -/
def fnExactIpOkWrong : ChangeSpec := { name := "fnExactIpOk", fn := fun _ => fun
  | [d] => { results := [.lit (.bool false)], args := [d] }
  | _ => none }
def FnExactIpOkWrongFalsely : Prop := fnExactIpOkRow.holds Try.pinned (OpenSpec.ofChange fnExactIpOkWrong)

/-- 'laws.FnExactIpBytes': WHATEVER THE INPUT: true; the input reads as it did. -/
def fnExactIpBytesSpec : ChangeSpec := { name := "fnExactIpBytes", fn := fun _ => fun
  | [d] => { results := [.lit (.bool true)], args := [d] }
  | _ => none }
def fnExactIpBytesRow : OpenClaim := { program := "ytcbaenndkljlpaa", sum := "442510228cf265f042b7ccdce9ba972638c36ee0bd18e06871b5c1268e3d94b8", func := "loop.example/g00559/laws.FnExactIpBytes", spec := "fnExactIpBytes", inPlace := ["internal/abi.NoEscape"], apart := false }
def FnExactIpBytesSaid : Prop := fnExactIpBytesRow.holds Try.pinned (OpenSpec.ofChange fnExactIpBytesSpec)

/-- ITS FALSE NEIGHBOUR: 'it returns false'. Refute it at one input. -/
def fnExactIpBytesWrong : ChangeSpec := { name := "fnExactIpBytes", fn := fun _ => fun
  | [d] => { results := [.lit (.bool false)], args := [d] }
  | _ => none }
def FnExactIpBytesWrongFalsely : Prop := fnExactIpBytesRow.holds Try.pinned (OpenSpec.ofChange fnExactIpBytesWrong)

/-- 'laws.FnExactReadIp': WHATEVER THE INPUT: true; the input reads as it did. -/
def fnExactReadIpSpec : ChangeSpec := { name := "fnExactReadIp", fn := fun _ => fun
  | [d] => { results := [.lit (.bool true)], args := [d] }
  | _ => none }
def fnExactReadIpRow : OpenClaim := { program := "ytcbaenndkljlpaa", sum := "442510228cf265f042b7ccdce9ba972638c36ee0bd18e06871b5c1268e3d94b8", func := "loop.example/g00559/laws.FnExactReadIp", spec := "fnExactReadIp", inPlace := ["internal/abi.NoEscape"], unfollowed := true, recurses := true, apart := false }
def FnExactReadIpSaid : Prop := fnExactReadIpRow.holds Try.pinned (OpenSpec.ofChange fnExactReadIpSpec)

/-- ITS FALSE NEIGHBOUR: 'it returns false'. Refute it at one input. -/
def fnExactReadIpWrong : ChangeSpec := { name := "fnExactReadIp", fn := fun _ => fun
  | [d] => { results := [.lit (.bool false)], args := [d] }
  | _ => none }
def FnExactReadIpWrongFalsely : Prop := fnExactReadIpRow.holds Try.pinned (OpenSpec.ofChange fnExactReadIpWrong)

/- THE SECOND FORM. 'bulk': how many values and letters a reading holds, each counted each time it is reached (what is shared counts as often as it is met; a slice's spare places count too). A statement '..UptoSaid' is the law's where the arguments, and the package variables that the reading takes, are together of bulk at most 1048576: NARROWER than '..Said'. Prove '..Said' where nothing that the law and all that it calls make is longer than what came in: it says more and counts as full. Else prove '..UptoSaid'. A law counts once. -/
mutual
def uptoBulk {H : Type} : DataW H → Nat
  | .lit (.string bytes) => bytes.length + 1
  | .lit _ => 1
  | .nil => 1
  | .ptr d => uptoBulk d + 1
  | .slice elems spare => uptoBulkAll elems + uptoBulkAll spare + 1
  | .agg parts => uptoBulkAll parts + 1
  | .iface _ d => uptoBulk d + 1
  | .map entries => uptoBulkEntries entries + 1
  | .held _ => 1
def uptoBulkAll {H : Type} : List (DataW H) → Nat
  | [] => 0
  | d :: r => uptoBulk d + uptoBulkAll r
def uptoBulkEntries {H : Type} : List (Lit × DataW H) → Nat
  | [] => 0
  | x :: r => uptoBulkEntry x + uptoBulkEntries r
def uptoBulkEntry {H : Type} : Lit × DataW H → Nat
  | (.string bytes, d) => bytes.length + uptoBulk d + 1
  | (_, d) => uptoBulk d + 1
 end
def uptoSmall : (H : Type) → List (DataW H) → Bool := fun _ ds => decide (uptoBulkAll ds ≤ 1048576)
def OpenSpec.upto (s : _root_.Go.ChangeSpec) : _root_.Go.OpenSpec := { _root_.Go.OpenSpec.ofChange s with cond := some uptoSmall }

/-- 'laws.FnIps', WHERE WHAT IT READS IS OF BULK AT MOST 1048576: true; the input reads as it did. -/
def fnIpsUptoRow : OpenClaim := { program := "ytcbaenndkljlpaa", sum := "442510228cf265f042b7ccdce9ba972638c36ee0bd18e06871b5c1268e3d94b8", func := "loop.example/g00559/laws.FnIps", spec := "fnIps", inPlace := ["internal/abi.NoEscape"], unfollowed := true, recurses := true, apart := false, narrowed := true }
def FnIpsUptoSaid : Prop := fnIpsUptoRow.holds Try.pinned (OpenSpec.upto fnIpsSpec)

/-- 'laws.FnTtl', WHERE WHAT IT READS IS OF BULK AT MOST 1048576: true; the input reads as it did. -/
def fnTtlUptoRow : OpenClaim := { program := "ytcbaenndkljlpaa", sum := "442510228cf265f042b7ccdce9ba972638c36ee0bd18e06871b5c1268e3d94b8", func := "loop.example/g00559/laws.FnTtl", spec := "fnTtl", inPlace := ["internal/abi.NoEscape"], apart := false, narrowed := true }
def FnTtlUptoSaid : Prop := fnTtlUptoRow.holds Try.pinned (OpenSpec.upto fnTtlSpec)

/-- 'laws.FnExactIpOk', WHERE WHAT IT READS IS OF BULK AT MOST 1048576: true; the input reads as it did. -/
def fnExactIpOkUptoRow : OpenClaim := { program := "ytcbaenndkljlpaa", sum := "442510228cf265f042b7ccdce9ba972638c36ee0bd18e06871b5c1268e3d94b8", func := "loop.example/g00559/laws.FnExactIpOk", spec := "fnExactIpOk", apart := false, narrowed := true }
def FnExactIpOkUptoSaid : Prop := fnExactIpOkUptoRow.holds Try.pinned (OpenSpec.upto fnExactIpOkSpec)

/-- 'laws.FnExactIpBytes', WHERE WHAT IT READS IS OF BULK AT MOST 1048576: true; the input reads as it did. -/
def fnExactIpBytesUptoRow : OpenClaim := { program := "ytcbaenndkljlpaa", sum := "442510228cf265f042b7ccdce9ba972638c36ee0bd18e06871b5c1268e3d94b8", func := "loop.example/g00559/laws.FnExactIpBytes", spec := "fnExactIpBytes", inPlace := ["internal/abi.NoEscape"], apart := false, narrowed := true }
def FnExactIpBytesUptoSaid : Prop := fnExactIpBytesUptoRow.holds Try.pinned (OpenSpec.upto fnExactIpBytesSpec)

/-- 'laws.FnExactReadIp', WHERE WHAT IT READS IS OF BULK AT MOST 1048576: true; the input reads as it did. -/
def fnExactReadIpUptoRow : OpenClaim := { program := "ytcbaenndkljlpaa", sum := "442510228cf265f042b7ccdce9ba972638c36ee0bd18e06871b5c1268e3d94b8", func := "loop.example/g00559/laws.FnExactReadIp", spec := "fnExactReadIp", inPlace := ["internal/abi.NoEscape"], unfollowed := true, recurses := true, apart := false, narrowed := true }
def FnExactReadIpUptoSaid : Prop := fnExactReadIpUptoRow.holds Try.pinned (OpenSpec.upto fnExactReadIpSpec)

end Rows
end Go.Proofs.Ytcbaenndkljlpaa
