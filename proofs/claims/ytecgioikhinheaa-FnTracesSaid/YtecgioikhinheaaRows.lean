/-
  No cell of these rows narrows 'for every input' (looked for: loops, veiled, ifaces, maps, wideKeys, modest, calm, conditions, laid).
  DERIVED. THE GIVEN ROWS OF THIS SEAT. 7 by the template 'for every input the law returns true; each argument reads behind the call as it read before'; 0 by the template 'total and deterministic' (their statements: YtecgioikhinheaaTotals.lean).
  GIVEN WITH THE SEED: the statements are not yours to turn. If you find one false, say at which input.
  Laid BY PROGRAM, IN A SANDBOX (cutbox-rows.mjs): the forced cells as the released guide's own fill.sh prints them over the translation e1b810cca28ef32e… (all of the seat's roots in one cut). By AI agents, Wed Nov 11 2026. No macro, syntax, notation, axiom, sorry.
-/
import Derived.Test.YtecgioikhinheaaChecked
import GoSem.Claim
import GoSem.ClaimJoined
import GoSem.ClaimMapViews
import Derived.JoinedTies
import Derived.KernelRfl
namespace Go.Proofs.Ytecgioikhinheaa
/- THE CELL 'sum', in the pinned program and in every row, IS THE sha256 OF THE DUMP (.gsa) THAT YtecgioikhinheaaProg.lean LOADS. Nothing in Lean hashes anything: it is a label: what it is worth is what the hold of that sum in a sandbox is worth. -/
noncomputable def Try.pinned : Pinned := { name := "ytecgioikhinheaa", sum := "e1b810cca28ef32ea232ac2c28567fdddacfdf4e3ad554bcfcb1d98447112838", checked := Try.checked }
namespace Rows
def none {H : Type} : Left H := { results := [], args := [] }

/-- 'laws.FnBlocks': WHATEVER THE INPUT: true; the input reads as it did. -/
def fnBlocksSpec : ChangeSpec := { name := "fnBlocks", fn := fun _ => fun
  | [d] => { results := [.lit (.bool true)], args := [d] }
  | _ => none }
def fnBlocksRow : OpenClaim := { program := "ytecgioikhinheaa", sum := "e1b810cca28ef32ea232ac2c28567fdddacfdf4e3ad554bcfcb1d98447112838", func := "loop.example/g00559/laws.FnBlocks", spec := "fnBlocks", unfollowed := true, recurses := true, apart := false }
def FnBlocksSaid : Prop := fnBlocksRow.holds Try.pinned (OpenSpec.ofChange fnBlocksSpec)

/-- ITS FALSE NEIGHBOUR: 'it returns false'. Refute it at one input. -/
def fnBlocksWrong : ChangeSpec := { name := "fnBlocks", fn := fun _ => fun
  | [d] => { results := [.lit (.bool false)], args := [d] }
  | _ => none }
def FnBlocksWrongFalsely : Prop := fnBlocksRow.holds Try.pinned (OpenSpec.ofChange fnBlocksWrong)

/-- 'laws.FnTraces': WHATEVER THE INPUT: true; the input reads as it did. -/
def fnTracesSpec : ChangeSpec := { name := "fnTraces", fn := fun _ => fun
  | [d] => { results := [.lit (.bool true)], args := [d] }
  | _ => none }
def fnTracesRow : OpenClaim := { program := "ytecgioikhinheaa", sum := "e1b810cca28ef32ea232ac2c28567fdddacfdf4e3ad554bcfcb1d98447112838", func := "loop.example/g00559/laws.FnTraces", spec := "fnTraces", inPlace := ["internal/abi.NoEscape", "internal/bytealg.MakeNoZero"], unfollowed := true, recurses := true, apart := false }
def FnTracesSaid : Prop := fnTracesRow.holds Try.pinned (OpenSpec.ofChange fnTracesSpec)

/-- ITS FALSE NEIGHBOUR: 'it returns false'. Refute it at one input. -/
def fnTracesWrong : ChangeSpec := { name := "fnTraces", fn := fun _ => fun
  | [d] => { results := [.lit (.bool false)], args := [d] }
  | _ => none }
def FnTracesWrongFalsely : Prop := fnTracesRow.holds Try.pinned (OpenSpec.ofChange fnTracesWrong)

/-- 'laws.FnBlockChain': WHATEVER THE INPUT: true; the input reads as it did. -/
def fnBlockChainSpec : ChangeSpec := { name := "fnBlockChain", fn := fun _ => fun
  | [d] => { results := [.lit (.bool true)], args := [d] }
  | _ => none }
def fnBlockChainRow : OpenClaim := { program := "ytecgioikhinheaa", sum := "e1b810cca28ef32ea232ac2c28567fdddacfdf4e3ad554bcfcb1d98447112838", func := "loop.example/g00559/laws.FnBlockChain", spec := "fnBlockChain", unfollowed := true, recurses := true, apart := false }
def FnBlockChainSaid : Prop := fnBlockChainRow.holds Try.pinned (OpenSpec.ofChange fnBlockChainSpec)

/-- ITS FALSE NEIGHBOUR: 'it returns false'. Refute it at one input. -/
def fnBlockChainWrong : ChangeSpec := { name := "fnBlockChain", fn := fun _ => fun
  | [d] => { results := [.lit (.bool false)], args := [d] }
  | _ => none }
def FnBlockChainWrongFalsely : Prop := fnBlockChainRow.holds Try.pinned (OpenSpec.ofChange fnBlockChainWrong)

/-- 'laws.FnExactBlockBytes': WHATEVER THE INPUT: true; the input reads as it did. -/
def fnExactBlockBytesSpec : ChangeSpec := { name := "fnExactBlockBytes", fn := fun _ => fun
  | [d1, d2] => { results := [.lit (.bool true)], args := [d1, d2] }
  | _ => none }
def fnExactBlockBytesRow : OpenClaim := { program := "ytecgioikhinheaa", sum := "e1b810cca28ef32ea232ac2c28567fdddacfdf4e3ad554bcfcb1d98447112838", func := "loop.example/g00559/laws.FnExactBlockBytes", spec := "fnExactBlockBytes", apart := false }
def FnExactBlockBytesSaid : Prop := fnExactBlockBytesRow.holds Try.pinned (OpenSpec.ofChange fnExactBlockBytesSpec)

/-- ITS FALSE NEIGHBOUR: 'it returns false'. Refute it at one input. -/
def fnExactBlockBytesWrong : ChangeSpec := { name := "fnExactBlockBytes", fn := fun _ => fun
  | [d1, d2] => { results := [.lit (.bool false)], args := [d1, d2] }
  | _ => none }
def FnExactBlockBytesWrongFalsely : Prop := fnExactBlockBytesRow.holds Try.pinned (OpenSpec.ofChange fnExactBlockBytesWrong)

/-- 'laws.FnExactReadBlock': WHATEVER THE INPUT: true; the input reads as it did. -/
def fnExactReadBlockSpec : ChangeSpec := { name := "fnExactReadBlock", fn := fun _ => fun
  | [d1, d2] => { results := [.lit (.bool true)], args := [d1, d2] }
  | _ => none }
def fnExactReadBlockRow : OpenClaim := { program := "ytecgioikhinheaa", sum := "e1b810cca28ef32ea232ac2c28567fdddacfdf4e3ad554bcfcb1d98447112838", func := "loop.example/g00559/laws.FnExactReadBlock", spec := "fnExactReadBlock", unfollowed := true, recurses := true, apart := false }
def FnExactReadBlockSaid : Prop := fnExactReadBlockRow.holds Try.pinned (OpenSpec.ofChange fnExactReadBlockSpec)

/-- ITS FALSE NEIGHBOUR: 'it returns false'. Refute it at one input. -/
def fnExactReadBlockWrong : ChangeSpec := { name := "fnExactReadBlock", fn := fun _ => fun
  | [d1, d2] => { results := [.lit (.bool false)], args := [d1, d2] }
  | _ => none }
def FnExactReadBlockWrongFalsely : Prop := fnExactReadBlockRow.holds Try.pinned (OpenSpec.ofChange fnExactReadBlockWrong)

/-- 'laws.FnExactTraceBytes': WHATEVER THE INPUT: true; the input reads as it did. -/
def fnExactTraceBytesSpec : ChangeSpec := { name := "fnExactTraceBytes", fn := fun _ => fun
  | [d1, d2] => { results := [.lit (.bool true)], args := [d1, d2] }
  | _ => none }
def fnExactTraceBytesRow : OpenClaim := { program := "ytecgioikhinheaa", sum := "e1b810cca28ef32ea232ac2c28567fdddacfdf4e3ad554bcfcb1d98447112838", func := "loop.example/g00559/laws.FnExactTraceBytes", spec := "fnExactTraceBytes", inPlace := ["internal/abi.NoEscape", "internal/bytealg.MakeNoZero"], apart := false }
def FnExactTraceBytesSaid : Prop := fnExactTraceBytesRow.holds Try.pinned (OpenSpec.ofChange fnExactTraceBytesSpec)

/-- ITS FALSE NEIGHBOUR: 'it returns false'. Refute it at one input. -/
def fnExactTraceBytesWrong : ChangeSpec := { name := "fnExactTraceBytes", fn := fun _ => fun
  | [d1, d2] => { results := [.lit (.bool false)], args := [d1, d2] }
  | _ => none }
def FnExactTraceBytesWrongFalsely : Prop := fnExactTraceBytesRow.holds Try.pinned (OpenSpec.ofChange fnExactTraceBytesWrong)

/-- 'laws.FnExactReadTrace': WHATEVER THE INPUT: true; the input reads as it did. -/
def fnExactReadTraceSpec : ChangeSpec := { name := "fnExactReadTrace", fn := fun _ => fun
  | [d] => { results := [.lit (.bool true)], args := [d] }
  | _ => none }
def fnExactReadTraceRow : OpenClaim := { program := "ytecgioikhinheaa", sum := "e1b810cca28ef32ea232ac2c28567fdddacfdf4e3ad554bcfcb1d98447112838", func := "loop.example/g00559/laws.FnExactReadTrace", spec := "fnExactReadTrace", unfollowed := true, recurses := true, apart := false }
def FnExactReadTraceSaid : Prop := fnExactReadTraceRow.holds Try.pinned (OpenSpec.ofChange fnExactReadTraceSpec)

/-- ITS FALSE NEIGHBOUR: 'it returns false'. Refute it at one input. -/
def fnExactReadTraceWrong : ChangeSpec := { name := "fnExactReadTrace", fn := fun _ => fun
  | [d] => { results := [.lit (.bool false)], args := [d] }
  | _ => none }
def FnExactReadTraceWrongFalsely : Prop := fnExactReadTraceRow.holds Try.pinned (OpenSpec.ofChange fnExactReadTraceWrong)

/- THE SECOND FORM. 'bulk': how many values and letters a reading holds, each counted each time it is reached (what is shared counts as often as it is met; a slice's spare places count too). A statement '..UptoSaid' is the law's where the arguments, and the package variables that the reading takes, are together of bulk at most 1048576: NARROWER than '..Said'. Prove '..Said' where nothing that the law and all that it calls make is longer than what came in: it says more and counts as full. Else prove '..UptoSaid'. A law counts once. -/
mutual
def uptoBulk {H : Type} : DataW H → Nat
  | .lit (.string bytes) => bytes.length + 1
  | .lit _ => 1
  | .nil => 1
  | .ptr d => uptoBulk d + 1
  | .slice elems spare => uptoBulkAll elems + uptoBulkAll spare + 1
  | .agg parts => uptoBulkAll parts + 1
  | .iface _ d => uptoBulk d + 1
  | .map entries => uptoBulkEntries entries + 1
  | .held _ => 1
def uptoBulkAll {H : Type} : List (DataW H) → Nat
  | [] => 0
  | d :: r => uptoBulk d + uptoBulkAll r
def uptoBulkEntries {H : Type} : List (Lit × DataW H) → Nat
  | [] => 0
  | x :: r => uptoBulkEntry x + uptoBulkEntries r
def uptoBulkEntry {H : Type} : Lit × DataW H → Nat
  | (.string bytes, d) => bytes.length + uptoBulk d + 1
  | (_, d) => uptoBulk d + 1
 end
def uptoSmall : (H : Type) → List (DataW H) → Bool := fun _ ds => decide (uptoBulkAll ds ≤ 1048576)
def OpenSpec.upto (s : _root_.Go.ChangeSpec) : _root_.Go.OpenSpec := { _root_.Go.OpenSpec.ofChange s with cond := some uptoSmall }

/-- 'laws.FnBlocks', WHERE WHAT IT READS IS OF BULK AT MOST 1048576: true; the input reads as it did. -/
def fnBlocksUptoRow : OpenClaim := { program := "ytecgioikhinheaa", sum := "e1b810cca28ef32ea232ac2c28567fdddacfdf4e3ad554bcfcb1d98447112838", func := "loop.example/g00559/laws.FnBlocks", spec := "fnBlocks", unfollowed := true, recurses := true, apart := false, narrowed := true }
def FnBlocksUptoSaid : Prop := fnBlocksUptoRow.holds Try.pinned (OpenSpec.upto fnBlocksSpec)

/-- 'laws.FnTraces', WHERE WHAT IT READS IS OF BULK AT MOST 1048576: true; the input reads as it did. -/
def fnTracesUptoRow : OpenClaim := { program := "ytecgioikhinheaa", sum := "e1b810cca28ef32ea232ac2c28567fdddacfdf4e3ad554bcfcb1d98447112838", func := "loop.example/g00559/laws.FnTraces", spec := "fnTraces", inPlace := ["internal/abi.NoEscape", "internal/bytealg.MakeNoZero"], unfollowed := true, recurses := true, apart := false, narrowed := true }
def FnTracesUptoSaid : Prop := fnTracesUptoRow.holds Try.pinned (OpenSpec.upto fnTracesSpec)

/-- 'laws.FnBlockChain', WHERE WHAT IT READS IS OF BULK AT MOST 1048576: true; the input reads as it did. -/
def fnBlockChainUptoRow : OpenClaim := { program := "ytecgioikhinheaa", sum := "e1b810cca28ef32ea232ac2c28567fdddacfdf4e3ad554bcfcb1d98447112838", func := "loop.example/g00559/laws.FnBlockChain", spec := "fnBlockChain", unfollowed := true, recurses := true, apart := false, narrowed := true }
def FnBlockChainUptoSaid : Prop := fnBlockChainUptoRow.holds Try.pinned (OpenSpec.upto fnBlockChainSpec)

/-- 'laws.FnExactBlockBytes', WHERE WHAT IT READS IS OF BULK AT MOST 1048576: true; the input reads as it did. -/
def fnExactBlockBytesUptoRow : OpenClaim := { program := "ytecgioikhinheaa", sum := "e1b810cca28ef32ea232ac2c28567fdddacfdf4e3ad554bcfcb1d98447112838", func := "loop.example/g00559/laws.FnExactBlockBytes", spec := "fnExactBlockBytes", apart := false, narrowed := true }
def FnExactBlockBytesUptoSaid : Prop := fnExactBlockBytesUptoRow.holds Try.pinned (OpenSpec.upto fnExactBlockBytesSpec)

/-- 'laws.FnExactReadBlock', WHERE WHAT IT READS IS OF BULK AT MOST 1048576: true; the input reads as it did. -/
def fnExactReadBlockUptoRow : OpenClaim := { program := "ytecgioikhinheaa", sum := "e1b810cca28ef32ea232ac2c28567fdddacfdf4e3ad554bcfcb1d98447112838", func := "loop.example/g00559/laws.FnExactReadBlock", spec := "fnExactReadBlock", unfollowed := true, recurses := true, apart := false, narrowed := true }
def FnExactReadBlockUptoSaid : Prop := fnExactReadBlockUptoRow.holds Try.pinned (OpenSpec.upto fnExactReadBlockSpec)

/-- 'laws.FnExactTraceBytes', WHERE WHAT IT READS IS OF BULK AT MOST 1048576: true; the input reads as it did. -/
def fnExactTraceBytesUptoRow : OpenClaim := { program := "ytecgioikhinheaa", sum := "e1b810cca28ef32ea232ac2c28567fdddacfdf4e3ad554bcfcb1d98447112838", func := "loop.example/g00559/laws.FnExactTraceBytes", spec := "fnExactTraceBytes", inPlace := ["internal/abi.NoEscape", "internal/bytealg.MakeNoZero"], apart := false, narrowed := true }
def FnExactTraceBytesUptoSaid : Prop := fnExactTraceBytesUptoRow.holds Try.pinned (OpenSpec.upto fnExactTraceBytesSpec)

/-- 'laws.FnExactReadTrace', WHERE WHAT IT READS IS OF BULK AT MOST 1048576: true; the input reads as it did. -/
def fnExactReadTraceUptoRow : OpenClaim := { program := "ytecgioikhinheaa", sum := "e1b810cca28ef32ea232ac2c28567fdddacfdf4e3ad554bcfcb1d98447112838", func := "loop.example/g00559/laws.FnExactReadTrace", spec := "fnExactReadTrace", unfollowed := true, recurses := true, apart := false, narrowed := true }
def FnExactReadTraceUptoSaid : Prop := fnExactReadTraceUptoRow.holds Try.pinned (OpenSpec.upto fnExactReadTraceSpec)

end Rows
end Go.Proofs.Ytecgioikhinheaa
