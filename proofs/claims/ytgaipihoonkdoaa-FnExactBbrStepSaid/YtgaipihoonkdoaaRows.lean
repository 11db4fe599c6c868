/-
  No cell of these rows narrows 'for every input' (looked for: loops, veiled, ifaces, maps, wideKeys, modest, calm, conditions, laid).
  DERIVED. THE GIVEN ROWS OF THIS SEAT. 12 by the template 'for every input the law returns true; each argument reads behind the call as it read before'; 0 by the template 'total and deterministic' (their statements: YtgaipihoonkdoaaTotals.lean).
  GIVEN WITH THE SEED: the statements are not yours to turn. If you find one false, say at which input.
  Laid BY PROGRAM, IN A SANDBOX (cutbox-rows.mjs): the forced cells as the released guide's own fill.sh prints them over the translation 5b7c59793d700cb7… (all of the seat's roots in one cut). By AI agents, Wed Nov 11 2026. No macro, syntax, notation, axiom, sorry.
-/
import Derived.Test.YtgaipihoonkdoaaChecked
import GoSem.Claim
import GoSem.ClaimJoined
import GoSem.ClaimMapViews
import Derived.JoinedTies
import Derived.KernelRfl
namespace Go.Proofs.Ytgaipihoonkdoaa
/- THE CELL 'sum', in the pinned program and in every row, IS THE sha256 OF THE DUMP (.gsa) THAT YtgaipihoonkdoaaProg.lean LOADS. Nothing in Lean hashes anything: it is a label: what it is worth is what the hold of that sum in a sandbox is worth. -/
noncomputable def Try.pinned : Pinned := { name := "ytgaipihoonkdoaa", sum := "5b7c59793d700cb7a551dbaf70378661ae1d0a62a91d327a66f54d293deba725", checked := Try.checked }
namespace Rows
def none {H : Type} : Left H := { results := [], args := [] }

/-- 'laws.FnExactFilterOk': WHATEVER THE INPUT: true; the input reads as it did. -/
def fnExactFilterOkSpec : ChangeSpec := { name := "fnExactFilterOk", fn := fun _ => fun
  | [d] => { results := [.lit (.bool true)], args := [d] }
  | _ => none }
def fnExactFilterOkRow : OpenClaim := { program := "ytgaipihoonkdoaa", sum := "5b7c59793d700cb7a551dbaf70378661ae1d0a62a91d327a66f54d293deba725", func := "loop.example/g00559/laws.FnExactFilterOk", spec := "fnExactFilterOk", apart := false }
def FnExactFilterOkSaid : Prop := fnExactFilterOkRow.holds Try.pinned (OpenSpec.ofChange fnExactFilterOkSpec)

/-- ITS FALSE NEIGHBOUR: 'it returns false'. Refute it at one input. -/
def fnExactFilterOkWrong : ChangeSpec := { name := "fnExactFilterOk", fn := fun _ => fun
  | [d] => { results := [.lit (.bool false)], args := [d] }
  | _ => none }
def FnExactFilterOkWrongFalsely : Prop := fnExactFilterOkRow.holds Try.pinned (OpenSpec.ofChange fnExactFilterOkWrong)

/-- 'laws.FnExactFilterAdd': WHATEVER THE INPUT: true; the input reads as it did. -/
def fnExactFilterAddSpec : ChangeSpec := { name := "fnExactFilterAdd", fn := fun _ => fun
  | [d1, d2, d3] => { results := [.lit (.bool true)], args := [d1, d2, d3] }
  | _ => none }
def fnExactFilterAddRow : OpenClaim := { program := "ytgaipihoonkdoaa", sum := "5b7c59793d700cb7a551dbaf70378661ae1d0a62a91d327a66f54d293deba725", func := "loop.example/g00559/laws.FnExactFilterAdd", spec := "fnExactFilterAdd", apart := false }
def FnExactFilterAddSaid : Prop := fnExactFilterAddRow.holds Try.pinned (OpenSpec.ofChange fnExactFilterAddSpec)

/-- ITS FALSE NEIGHBOUR: 'it returns false'. Refute it at one input. -/
def fnExactFilterAddWrong : ChangeSpec := { name := "fnExactFilterAdd", fn := fun _ => fun
  | [d1, d2, d3] => { results := [.lit (.bool false)], args := [d1, d2, d3] }
  | _ => none }
def FnExactFilterAddWrongFalsely : Prop := fnExactFilterAddRow.holds Try.pinned (OpenSpec.ofChange fnExactFilterAddWrong)

/-- 'laws.FnExactFilterBest': WHATEVER THE INPUT: true; the input reads as it did. -/
def fnExactFilterBestSpec : ChangeSpec := { name := "fnExactFilterBest", fn := fun _ => fun
  | [d] => { results := [.lit (.bool true)], args := [d] }
  | _ => none }
def fnExactFilterBestRow : OpenClaim := { program := "ytgaipihoonkdoaa", sum := "5b7c59793d700cb7a551dbaf70378661ae1d0a62a91d327a66f54d293deba725", func := "loop.example/g00559/laws.FnExactFilterBest", spec := "fnExactFilterBest", apart := false }
def FnExactFilterBestSaid : Prop := fnExactFilterBestRow.holds Try.pinned (OpenSpec.ofChange fnExactFilterBestSpec)

/-- ITS FALSE NEIGHBOUR: 'it returns false'. Refute it at one input. -/
def fnExactFilterBestWrong : ChangeSpec := { name := "fnExactFilterBest", fn := fun _ => fun
  | [d] => { results := [.lit (.bool false)], args := [d] }
  | _ => none }
def FnExactFilterBestWrongFalsely : Prop := fnExactFilterBestRow.holds Try.pinned (OpenSpec.ofChange fnExactFilterBestWrong)

/-- 'laws.FnExactBbrNew': WHATEVER THE INPUT: true; the input reads as it did. -/
def fnExactBbrNewSpec : ChangeSpec := { name := "fnExactBbrNew", fn := fun _ => fun
  | [d] => { results := [.lit (.bool true)], args := [d] }
  | _ => none }
def fnExactBbrNewRow : OpenClaim := { program := "ytgaipihoonkdoaa", sum := "5b7c59793d700cb7a551dbaf70378661ae1d0a62a91d327a66f54d293deba725", func := "loop.example/g00559/laws.FnExactBbrNew", spec := "fnExactBbrNew", apart := false }
def FnExactBbrNewSaid : Prop := fnExactBbrNewRow.holds Try.pinned (OpenSpec.ofChange fnExactBbrNewSpec)

/-- ITS FALSE NEIGHBOUR: 'it returns false'. Refute it at one input. -/
def fnExactBbrNewWrong : ChangeSpec := { name := "fnExactBbrNew", fn := fun _ => fun
  | [d] => { results := [.lit (.bool false)], args := [d] }
  | _ => none }
def FnExactBbrNewWrongFalsely : Prop := fnExactBbrNewRow.holds Try.pinned (OpenSpec.ofChange fnExactBbrNewWrong)

/-- 'laws.FnExactBbrOk': WHATEVER THE INPUT: true; the input reads as it did. -/
def fnExactBbrOkSpec : ChangeSpec := { name := "fnExactBbrOk", fn := fun _ => fun
  | [d] => { results := [.lit (.bool true)], args := [d] }
  | _ => none }
def fnExactBbrOkRow : OpenClaim := { program := "ytgaipihoonkdoaa", sum := "5b7c59793d700cb7a551dbaf70378661ae1d0a62a91d327a66f54d293deba725", func := "loop.example/g00559/laws.FnExactBbrOk", spec := "fnExactBbrOk", apart := false }
def FnExactBbrOkSaid : Prop := fnExactBbrOkRow.holds Try.pinned (OpenSpec.ofChange fnExactBbrOkSpec)

/-- ITS FALSE NEIGHBOUR: 'it returns false'. Refute it at one input. -/
def fnExactBbrOkWrong : ChangeSpec := { name := "fnExactBbrOk", fn := fun _ => fun
  | [d] => { results := [.lit (.bool false)], args := [d] }
  | _ => none }
def FnExactBbrOkWrongFalsely : Prop := fnExactBbrOkRow.holds Try.pinned (OpenSpec.ofChange fnExactBbrOkWrong)

/-- 'laws.FnExactBbrStep': WHATEVER THE INPUT: true; the input reads as it did. -/
def fnExactBbrStepSpec : ChangeSpec := { name := "fnExactBbrStep", fn := fun _ => fun
  | [d1, d2, d3, d4] => { results := [.lit (.bool true)], args := [d1, d2, d3, d4] }
  | _ => none }
def fnExactBbrStepRow : OpenClaim := { program := "ytgaipihoonkdoaa", sum := "5b7c59793d700cb7a551dbaf70378661ae1d0a62a91d327a66f54d293deba725", func := "loop.example/g00559/laws.FnExactBbrStep", spec := "fnExactBbrStep", apart := false }
def FnExactBbrStepSaid : Prop := fnExactBbrStepRow.holds Try.pinned (OpenSpec.ofChange fnExactBbrStepSpec)

/-- ITS FALSE NEIGHBOUR: 'it returns false'. Refute it at one input. -/
def fnExactBbrStepWrong : ChangeSpec := { name := "fnExactBbrStep", fn := fun _ => fun
  | [d1, d2, d3, d4] => { results := [.lit (.bool false)], args := [d1, d2, d3, d4] }
  | _ => none }
def FnExactBbrStepWrongFalsely : Prop := fnExactBbrStepRow.holds Try.pinned (OpenSpec.ofChange fnExactBbrStepWrong)

/-- 'laws.FnExactBbrWin': WHATEVER THE INPUT: true; the input reads as it did. -/
def fnExactBbrWinSpec : ChangeSpec := { name := "fnExactBbrWin", fn := fun _ => fun
  | [d] => { results := [.lit (.bool true)], args := [d] }
  | _ => none }
def fnExactBbrWinRow : OpenClaim := { program := "ytgaipihoonkdoaa", sum := "5b7c59793d700cb7a551dbaf70378661ae1d0a62a91d327a66f54d293deba725", func := "loop.example/g00559/laws.FnExactBbrWin", spec := "fnExactBbrWin", apart := false }
def FnExactBbrWinSaid : Prop := fnExactBbrWinRow.holds Try.pinned (OpenSpec.ofChange fnExactBbrWinSpec)

/-- ITS FALSE NEIGHBOUR: 'it returns false'. Refute it at one input. -/
def fnExactBbrWinWrong : ChangeSpec := { name := "fnExactBbrWin", fn := fun _ => fun
  | [d] => { results := [.lit (.bool false)], args := [d] }
  | _ => none }
def FnExactBbrWinWrongFalsely : Prop := fnExactBbrWinRow.holds Try.pinned (OpenSpec.ofChange fnExactBbrWinWrong)

/-- 'laws.FnBbrNew': WHATEVER THE INPUT: true; the input reads as it did. -/
def fnBbrNewSpec : ChangeSpec := { name := "fnBbrNew", fn := fun _ => fun
  | [d] => { results := [.lit (.bool true)], args := [d] }
  | _ => none }
def fnBbrNewRow : OpenClaim := { program := "ytgaipihoonkdoaa", sum := "5b7c59793d700cb7a551dbaf70378661ae1d0a62a91d327a66f54d293deba725", func := "loop.example/g00559/laws.FnBbrNew", spec := "fnBbrNew", apart := false }
def FnBbrNewSaid : Prop := fnBbrNewRow.holds Try.pinned (OpenSpec.ofChange fnBbrNewSpec)

/-- ITS FALSE NEIGHBOUR: 'it returns false'. Refute it at one input. -/
def fnBbrNewWrong : ChangeSpec := { name := "fnBbrNew", fn := fun _ => fun
  | [d] => { results := [.lit (.bool false)], args := [d] }
  | _ => none }
def FnBbrNewWrongFalsely : Prop := fnBbrNewRow.holds Try.pinned (OpenSpec.ofChange fnBbrNewWrong)

/-- 'laws.FnBbrRound': WHATEVER THE INPUT: true; the input reads as it did. -/
def fnBbrRoundSpec : ChangeSpec := { name := "fnBbrRound", fn := fun _ => fun
  | [d] => { results := [.lit (.bool true)], args := [d] }
  | _ => none }
def fnBbrRoundRow : OpenClaim := { program := "ytgaipihoonkdoaa", sum := "5b7c59793d700cb7a551dbaf70378661ae1d0a62a91d327a66f54d293deba725", func := "loop.example/g00559/laws.FnBbrRound", spec := "fnBbrRound", apart := false }
def FnBbrRoundSaid : Prop := fnBbrRoundRow.holds Try.pinned (OpenSpec.ofChange fnBbrRoundSpec)

/-- ITS FALSE NEIGHBOUR: 'it returns false'. Refute it at one input. -/
def fnBbrRoundWrong : ChangeSpec := { name := "fnBbrRound", fn := fun _ => fun
  | [d] => { results := [.lit (.bool false)], args := [d] }
  | _ => none }
def FnBbrRoundWrongFalsely : Prop := fnBbrRoundRow.holds Try.pinned (OpenSpec.ofChange fnBbrRoundWrong)

/-- 'laws.FnBbr': WHATEVER THE INPUT: true; the input reads as it did. -/
def fnBbrSpec : ChangeSpec := { name := "fnBbr", fn := fun _ => fun
  | [d] => { results := [.lit (.bool true)], args := [d] }
  | _ => none }
def fnBbrRow : OpenClaim := { program := "ytgaipihoonkdoaa", sum := "5b7c59793d700cb7a551dbaf70378661ae1d0a62a91d327a66f54d293deba725", func := "loop.example/g00559/laws.FnBbr", spec := "fnBbr", apart := false }
def FnBbrSaid : Prop := fnBbrRow.holds Try.pinned (OpenSpec.ofChange fnBbrSpec)

/-- ITS FALSE NEIGHBOUR: 'it returns false'. Refute it at one input. -/
def fnBbrWrong : ChangeSpec := { name := "fnBbr", fn := fun _ => fun
  | [d] => { results := [.lit (.bool false)], args := [d] }
  | _ => none }
def FnBbrWrongFalsely : Prop := fnBbrRow.holds Try.pinned (OpenSpec.ofChange fnBbrWrong)

/-- 'laws.FnFilter': WHATEVER THE INPUT: true; the input reads as it did. -/
def fnFilterSpec : ChangeSpec := { name := "fnFilter", fn := fun _ => fun
  | [d] => { results := [.lit (.bool true)], args := [d] }
  | _ => none }
def fnFilterRow : OpenClaim := { program := "ytgaipihoonkdoaa", sum := "5b7c59793d700cb7a551dbaf70378661ae1d0a62a91d327a66f54d293deba725", func := "loop.example/g00559/laws.FnFilter", spec := "fnFilter", apart := false }
def FnFilterSaid : Prop := fnFilterRow.holds Try.pinned (OpenSpec.ofChange fnFilterSpec)

/-- ITS FALSE NEIGHBOUR: 'it returns false'. Refute it at one input. -/
def fnFilterWrong : ChangeSpec := { name := "fnFilter", fn := fun _ => fun
  | [d] => { results := [.lit (.bool false)], args := [d] }
  | _ => none }
def FnFilterWrongFalsely : Prop := fnFilterRow.holds Try.pinned (OpenSpec.ofChange fnFilterWrong)

/-- 'laws.FnFilterTwice': WHATEVER THE INPUT: true; the input reads as it did. -/
def fnFilterTwiceSpec : ChangeSpec := { name := "fnFilterTwice", fn := fun _ => fun
  | [d] => { results := [.lit (.bool true)], args := [d] }
  | _ => none }
def fnFilterTwiceRow : OpenClaim := { program := "ytgaipihoonkdoaa", sum := "5b7c59793d700cb7a551dbaf70378661ae1d0a62a91d327a66f54d293deba725", func := "loop.example/g00559/laws.FnFilterTwice", spec := "fnFilterTwice", apart := false }
def FnFilterTwiceSaid : Prop := fnFilterTwiceRow.holds Try.pinned (OpenSpec.ofChange fnFilterTwiceSpec)

/-- ITS FALSE NEIGHBOUR: 'it returns false'. Refute it at one input. -/
def fnFilterTwiceWrong : ChangeSpec := { name := "fnFilterTwice", fn := fun _ => fun
  | [d] => { results := [.lit (.bool false)], args := [d] }
  | _ => none }
def FnFilterTwiceWrongFalsely : Prop := fnFilterTwiceRow.holds Try.pinned (OpenSpec.ofChange fnFilterTwiceWrong)

/- THE SECOND FORM. 'bulk': how many values and letters a reading holds, each counted each time it is reached (what is shared counts as often as it is met; a slice's spare places count too). A statement '..UptoSaid' is the law's where the arguments, and the package variables that the reading takes, are together of bulk at most 1048576: NARROWER than '..Said'. Prove '..Said' where nothing that the law and all that it calls make is longer than what came in: it says more and counts as full. Else prove '..UptoSaid'. A law counts once. -/
mutual
def uptoBulk {H : Type} : DataW H → Nat
  | .lit (.string bytes) => bytes.length + 1
  | .lit _ => 1
  | .nil => 1
  | .ptr d => uptoBulk d + 1
  | .slice elems spare => uptoBulkAll elems + uptoBulkAll spare + 1
  | .agg parts => uptoBulkAll parts + 1
  | .iface _ d => uptoBulk d + 1
  | .map entries => uptoBulkEntries entries + 1
  | .held _ => 1
def uptoBulkAll {H : Type} : List (DataW H) → Nat
  | [] => 0
  | d :: r => uptoBulk d + uptoBulkAll r
def uptoBulkEntries {H : Type} : List (Lit × DataW H) → Nat
  | [] => 0
  | x :: r => uptoBulkEntry x + uptoBulkEntries r
def uptoBulkEntry {H : Type} : Lit × DataW H → Nat
  | (.string bytes, d) => bytes.length + uptoBulk d + 1
  | (_, d) => uptoBulk d + 1
 end
def uptoSmall : (H : Type) → List (DataW H) → Bool := fun _ ds => decide (uptoBulkAll ds ≤ 1048576)
def OpenSpec.upto (s : _root_.Go.ChangeSpec) : _root_.Go.OpenSpec := { _root_.Go.OpenSpec.ofChange s with cond := some uptoSmall }

/-- 'laws.FnExactFilterOk', WHERE WHAT IT READS IS OF BULK AT MOST 1048576: true; the input reads as it did. -/
def fnExactFilterOkUptoRow : OpenClaim := { program := "ytgaipihoonkdoaa", sum := "5b7c59793d700cb7a551dbaf70378661ae1d0a62a91d327a66f54d293deba725", func := "loop.example/g00559/laws.FnExactFilterOk", spec := "fnExactFilterOk", apart := false, narrowed := true }
def FnExactFilterOkUptoSaid : Prop := fnExactFilterOkUptoRow.holds Try.pinned (OpenSpec.upto fnExactFilterOkSpec)

/-- 'laws.FnExactFilterAdd', WHERE WHAT IT READS IS OF BULK AT MOST 1048576: true; the input reads as it did. -/
def fnExactFilterAddUptoRow : OpenClaim := { program := "ytgaipihoonkdoaa", sum := "5b7c59793d700cb7a551dbaf70378661ae1d0a62a91d327a66f54d293deba725", func := "loop.example/g00559/laws.FnExactFilterAdd", spec := "fnExactFilterAdd", apart := false, narrowed := true }
def FnExactFilterAddUptoSaid : Prop := fnExactFilterAddUptoRow.holds Try.pinned (OpenSpec.upto fnExactFilterAddSpec)

/-- 'laws.FnExactFilterBest', WHERE WHAT IT READS IS OF BULK AT MOST 1048576: true; the input reads as it did. -/
def fnExactFilterBestUptoRow : OpenClaim := { program := "ytgaipihoonkdoaa", sum := "5b7c59793d700cb7a551dbaf70378661ae1d0a62a91d327a66f54d293deba725", func := "loop.example/g00559/laws.FnExactFilterBest", spec := "fnExactFilterBest", apart := false, narrowed := true }
def FnExactFilterBestUptoSaid : Prop := fnExactFilterBestUptoRow.holds Try.pinned (OpenSpec.upto fnExactFilterBestSpec)

/-- 'laws.FnExactBbrNew', WHERE WHAT IT READS IS OF BULK AT MOST 1048576: true; the input reads as it did. -/
def fnExactBbrNewUptoRow : OpenClaim := { program := "ytgaipihoonkdoaa", sum := "5b7c59793d700cb7a551dbaf70378661ae1d0a62a91d327a66f54d293deba725", func := "loop.example/g00559/laws.FnExactBbrNew", spec := "fnExactBbrNew", apart := false, narrowed := true }
def FnExactBbrNewUptoSaid : Prop := fnExactBbrNewUptoRow.holds Try.pinned (OpenSpec.upto fnExactBbrNewSpec)

/-- 'laws.FnExactBbrOk', WHERE WHAT IT READS IS OF BULK AT MOST 1048576: true; the input reads as it did. -/
def fnExactBbrOkUptoRow : OpenClaim := { program := "ytgaipihoonkdoaa", sum := "5b7c59793d700cb7a551dbaf70378661ae1d0a62a91d327a66f54d293deba725", func := "loop.example/g00559/laws.FnExactBbrOk", spec := "fnExactBbrOk", apart := false, narrowed := true }
def FnExactBbrOkUptoSaid : Prop := fnExactBbrOkUptoRow.holds Try.pinned (OpenSpec.upto fnExactBbrOkSpec)

/-- 'laws.FnExactBbrStep', WHERE WHAT IT READS IS OF BULK AT MOST 1048576: true; the input reads as it did. -/
def fnExactBbrStepUptoRow : OpenClaim := { program := "ytgaipihoonkdoaa", sum := "5b7c59793d700cb7a551dbaf70378661ae1d0a62a91d327a66f54d293deba725", func := "loop.example/g00559/laws.FnExactBbrStep", spec := "fnExactBbrStep", apart := false, narrowed := true }
def FnExactBbrStepUptoSaid : Prop := fnExactBbrStepUptoRow.holds Try.pinned (OpenSpec.upto fnExactBbrStepSpec)

/-- 'laws.FnExactBbrWin', WHERE WHAT IT READS IS OF BULK AT MOST 1048576: true; the input reads as it did. -/
def fnExactBbrWinUptoRow : OpenClaim := { program := "ytgaipihoonkdoaa", sum := "5b7c59793d700cb7a551dbaf70378661ae1d0a62a91d327a66f54d293deba725", func := "loop.example/g00559/laws.FnExactBbrWin", spec := "fnExactBbrWin", apart := false, narrowed := true }
def FnExactBbrWinUptoSaid : Prop := fnExactBbrWinUptoRow.holds Try.pinned (OpenSpec.upto fnExactBbrWinSpec)

/-- 'laws.FnBbrNew', WHERE WHAT IT READS IS OF BULK AT MOST 1048576: true; the input reads as it did. -/
def fnBbrNewUptoRow : OpenClaim := { program := "ytgaipihoonkdoaa", sum := "5b7c59793d700cb7a551dbaf70378661ae1d0a62a91d327a66f54d293deba725", func := "loop.example/g00559/laws.FnBbrNew", spec := "fnBbrNew", apart := false, narrowed := true }
def FnBbrNewUptoSaid : Prop := fnBbrNewUptoRow.holds Try.pinned (OpenSpec.upto fnBbrNewSpec)

/-- 'laws.FnBbrRound', WHERE WHAT IT READS IS OF BULK AT MOST 1048576: true; the input reads as it did. -/
def fnBbrRoundUptoRow : OpenClaim := { program := "ytgaipihoonkdoaa", sum := "5b7c59793d700cb7a551dbaf70378661ae1d0a62a91d327a66f54d293deba725", func := "loop.example/g00559/laws.FnBbrRound", spec := "fnBbrRound", apart := false, narrowed := true }
def FnBbrRoundUptoSaid : Prop := fnBbrRoundUptoRow.holds Try.pinned (OpenSpec.upto fnBbrRoundSpec)

/-- 'laws.FnBbr', WHERE WHAT IT READS IS OF BULK AT MOST 1048576: true; the input reads as it did. -/
def fnBbrUptoRow : OpenClaim := { program := "ytgaipihoonkdoaa", sum := "5b7c59793d700cb7a551dbaf70378661ae1d0a62a91d327a66f54d293deba725", func := "loop.example/g00559/laws.FnBbr", spec := "fnBbr", apart := false, narrowed := true }
def FnBbrUptoSaid : Prop := fnBbrUptoRow.holds Try.pinned (OpenSpec.upto fnBbrSpec)

/-- 'laws.FnFilter', WHERE WHAT IT READS IS OF BULK AT MOST 1048576: true; the input reads as it did. -/
def fnFilterUptoRow : OpenClaim := { program := "ytgaipihoonkdoaa", sum := "5b7c59793d700cb7a551dbaf70378661ae1d0a62a91d327a66f54d293deba725", func := "loop.example/g00559/laws.FnFilter", spec := "fnFilter", apart := false, narrowed := true }
def FnFilterUptoSaid : Prop := fnFilterUptoRow.holds Try.pinned (OpenSpec.upto fnFilterSpec)

/-- 'laws.FnFilterTwice', WHERE WHAT IT READS IS OF BULK AT MOST 1048576: true; the input reads as it did. -/
def fnFilterTwiceUptoRow : OpenClaim := { program := "ytgaipihoonkdoaa", sum := "5b7c59793d700cb7a551dbaf70378661ae1d0a62a91d327a66f54d293deba725", func := "loop.example/g00559/laws.FnFilterTwice", spec := "fnFilterTwice", apart := false, narrowed := true }
def FnFilterTwiceUptoSaid : Prop := fnFilterTwiceUptoRow.holds Try.pinned (OpenSpec.upto fnFilterTwiceSpec)

end Rows
end Go.Proofs.Ytgaipihoonkdoaa
