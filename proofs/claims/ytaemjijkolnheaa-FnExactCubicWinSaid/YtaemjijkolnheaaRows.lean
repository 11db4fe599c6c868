/-
  No cell of these rows narrows 'for every input' (looked for: loops, veiled, ifaces, maps, wideKeys, modest, calm, conditions, laid).
  DERIVED. THE GIVEN ROWS OF THIS SEAT. 6 by the template 'for every input the law returns true; each argument reads behind the call as it read before'; 0 by the template 'total and deterministic' (their statements: YtaemjijkolnheaaTotals.lean).
  GIVEN WITH THE SEED: the statements are not yours to turn. If you find one false, say at which input.
  Laid BY PROGRAM, IN A SANDBOX (cutbox-rows.mjs): the forced cells as the released guide's own fill.sh prints them over the translation addcea8ec7442f10… (all of the seat's roots in one cut). By AI agents, Wed Nov 11 2026. No macro, syntax, notation, axiom, sorry.
-/
import Derived.Test.YtaemjijkolnheaaChecked
import GoSem.Claim
import GoSem.ClaimJoined
import GoSem.ClaimMapViews
import Derived.JoinedTies
import Derived.KernelRfl
namespace Go.Proofs.Ytaemjijkolnheaa
/- THE CELL 'sum', in the pinned program and in every row, IS THE sha256 OF THE DUMP (.gsa) THAT YtaemjijkolnheaaProg.lean LOADS. Nothing in Lean hashes anything: it is a label: what it is worth is what the hold of that sum in a sandbox is worth. -/
noncomputable def Try.pinned : Pinned := { name := "ytaemjijkolnheaa", sum := "addcea8ec7442f10d66bf36b5e7234e79b3fc7ff834953c3e3642f37fcac2824", checked := Try.checked }
namespace Rows
def none {H : Type} : Left H := { results := [], args := [] }

/-- 'laws.FnCube': WHATEVER THE INPUT: true; the input reads as it did. -/
def fnCubeSpec : ChangeSpec := { name := "fnCube", fn := fun _ => fun
  | [d] => { results := [.lit (.bool true)], args := [d] }
  | _ => none }
def fnCubeRow : OpenClaim := { program := "ytaemjijkolnheaa", sum := "addcea8ec7442f10d66bf36b5e7234e79b3fc7ff834953c3e3642f37fcac2824", func := "loop.example/g00559/laws.FnCube", spec := "fnCube", unfollowed := true, recurses := true, apart := false }
def FnCubeSaid : Prop := fnCubeRow.holds Try.pinned (OpenSpec.ofChange fnCubeSpec)

/-- ITS FALSE NEIGHBOUR: 'it returns false'. Refute it at one input. -/
def fnCubeWrong : ChangeSpec := { name := "fnCube", fn := fun _ => fun
  | [d] => { results := [.lit (.bool false)], args := [d] }
  | _ => none }
def FnCubeWrongFalsely : Prop := fnCubeRow.holds Try.pinned (OpenSpec.ofChange fnCubeWrong)

/-- 'laws.FnCubic': WHATEVER THE INPUT: true; the input reads as it did. -/
def fnCubicSpec : ChangeSpec := { name := "fnCubic", fn := fun _ => fun
  | [d] => { results := [.lit (.bool true)], args := [d] }
  | _ => none }
def fnCubicRow : OpenClaim := { program := "ytaemjijkolnheaa", sum := "addcea8ec7442f10d66bf36b5e7234e79b3fc7ff834953c3e3642f37fcac2824", func := "loop.example/g00559/laws.FnCubic", spec := "fnCubic", unfollowed := true, recurses := true, apart := false }
def FnCubicSaid : Prop := fnCubicRow.holds Try.pinned (OpenSpec.ofChange fnCubicSpec)

/-- ITS FALSE NEIGHBOUR: 'it returns false'. Refute it at one input. -/
def fnCubicWrong : ChangeSpec := { name := "fnCubic", fn := fun _ => fun
  | [d] => { results := [.lit (.bool false)], args := [d] }
  | _ => none }
def FnCubicWrongFalsely : Prop := fnCubicRow.holds Try.pinned (OpenSpec.ofChange fnCubicWrong)

/-- 'laws.FnCubeMoves': WHATEVER THE INPUT: true; the input reads as it did. -/
def fnCubeMovesSpec : ChangeSpec := { name := "fnCubeMoves", fn := fun _ => fun
  | [d] => { results := [.lit (.bool true)], args := [d] }
  | _ => none }
def fnCubeMovesRow : OpenClaim := { program := "ytaemjijkolnheaa", sum := "addcea8ec7442f10d66bf36b5e7234e79b3fc7ff834953c3e3642f37fcac2824", func := "loop.example/g00559/laws.FnCubeMoves", spec := "fnCubeMoves", unfollowed := true, recurses := true, apart := false }
def FnCubeMovesSaid : Prop := fnCubeMovesRow.holds Try.pinned (OpenSpec.ofChange fnCubeMovesSpec)

/-- ITS FALSE NEIGHBOUR: 'it returns false'. Refute it at one input. -/
def fnCubeMovesWrong : ChangeSpec := { name := "fnCubeMoves", fn := fun _ => fun
  | [d] => { results := [.lit (.bool false)], args := [d] }
  | _ => none }
def FnCubeMovesWrongFalsely : Prop := fnCubeMovesRow.holds Try.pinned (OpenSpec.ofChange fnCubeMovesWrong)

/-- 'laws.FnExactCubeRoot': WHATEVER THE INPUT: true; the input reads as it did. -/
def fnExactCubeRootSpec : ChangeSpec := { name := "fnExactCubeRoot", fn := fun _ => fun
  | [d] => { results := [.lit (.bool true)], args := [d] }
  | _ => none }
def fnExactCubeRootRow : OpenClaim := { program := "ytaemjijkolnheaa", sum := "addcea8ec7442f10d66bf36b5e7234e79b3fc7ff834953c3e3642f37fcac2824", func := "loop.example/g00559/laws.FnExactCubeRoot", spec := "fnExactCubeRoot", unfollowed := true, recurses := true, apart := false }
def FnExactCubeRootSaid : Prop := fnExactCubeRootRow.holds Try.pinned (OpenSpec.ofChange fnExactCubeRootSpec)

/-- ITS FALSE NEIGHBOUR: 'it returns false'. Refute it at one input. -/
def fnExactCubeRootWrong : ChangeSpec := { name := "fnExactCubeRoot", fn := fun _ => fun
  | [d] => { results := [.lit (.bool false)], args := [d] }
  | _ => none }
def FnExactCubeRootWrongFalsely : Prop := fnExactCubeRootRow.holds Try.pinned (OpenSpec.ofChange fnExactCubeRootWrong)

/-- 'laws.FnExactCubicK': WHATEVER THE INPUT: true; the input reads as it did. -/
def fnExactCubicKSpec : ChangeSpec := { name := "fnExactCubicK", fn := fun _ => fun
  | [d] => { results := [.lit (.bool true)], args := [d] }
  | _ => none }
def fnExactCubicKRow : OpenClaim := { program := "ytaemjijkolnheaa", sum := "addcea8ec7442f10d66bf36b5e7234e79b3fc7ff834953c3e3642f37fcac2824", func := "loop.example/g00559/laws.FnExactCubicK", spec := "fnExactCubicK", unfollowed := true, recurses := true, apart := false }
def FnExactCubicKSaid : Prop := fnExactCubicKRow.holds Try.pinned (OpenSpec.ofChange fnExactCubicKSpec)

/-- ITS FALSE NEIGHBOUR: 'it returns false'. Refute it at one input. -/
def fnExactCubicKWrong : ChangeSpec := { name := "fnExactCubicK", fn := fun _ => fun
  | [d] => { results := [.lit (.bool false)], args := [d] }
  | _ => none }
def FnExactCubicKWrongFalsely : Prop := fnExactCubicKRow.holds Try.pinned (OpenSpec.ofChange fnExactCubicKWrong)

/-- 'laws.FnExactCubicWin': WHATEVER THE INPUT: true; the input reads as it did. -/
def fnExactCubicWinSpec : ChangeSpec := { name := "fnExactCubicWin", fn := fun _ => fun
  | [d1, d2] => { results := [.lit (.bool true)], args := [d1, d2] }
  | _ => none }
def fnExactCubicWinRow : OpenClaim := { program := "ytaemjijkolnheaa", sum := "addcea8ec7442f10d66bf36b5e7234e79b3fc7ff834953c3e3642f37fcac2824", func := "loop.example/g00559/laws.FnExactCubicWin", spec := "fnExactCubicWin", unfollowed := true, recurses := true, apart := false }
def FnExactCubicWinSaid : Prop := fnExactCubicWinRow.holds Try.pinned (OpenSpec.ofChange fnExactCubicWinSpec)

/-- ITS FALSE NEIGHBOUR: 'it returns false'. Refute it at one input. -/
def fnExactCubicWinWrong : ChangeSpec := { name := "fnExactCubicWin", fn := fun _ => fun
  | [d1, d2] => { results := [.lit (.bool false)], args := [d1, d2] }
  | _ => none }
def FnExactCubicWinWrongFalsely : Prop := fnExactCubicWinRow.holds Try.pinned (OpenSpec.ofChange fnExactCubicWinWrong)

/- THE SECOND FORM. 'bulk': how many values and letters a reading holds, each counted each time it is reached (what is shared counts as often as it is met; a slice's spare places count too). A statement '..UptoSaid' is the law's where the arguments, and the package variables that the reading takes, are together of bulk at most 1048576: NARROWER than '..Said'. Prove '..Said' where nothing that the law and all that it calls make is longer than what came in: it says more and counts as full. Else prove '..UptoSaid'. A law counts once. -/
mutual
def uptoBulk {H : Type} : DataW H → Nat
  | .lit (.string bytes) => bytes.length + 1
  | .lit _ => 1
  | .nil => 1
  | .ptr d => uptoBulk d + 1
  | .slice elems spare => uptoBulkAll elems + uptoBulkAll spare + 1
  | .agg parts => uptoBulkAll parts + 1
  | .iface _ d => uptoBulk d + 1
  | .map entries => uptoBulkEntries entries + 1
  | .held _ => 1
def uptoBulkAll {H : Type} : List (DataW H) → Nat
  | [] => 0
  | d :: r => uptoBulk d + uptoBulkAll r
def uptoBulkEntries {H : Type} : List (Lit × DataW H) → Nat
  | [] => 0
  | x :: r => uptoBulkEntry x + uptoBulkEntries r
def uptoBulkEntry {H : Type} : Lit × DataW H → Nat
  | (.string bytes, d) => bytes.length + uptoBulk d + 1
  | (_, d) => uptoBulk d + 1
 end
def uptoSmall : (H : Type) → List (DataW H) → Bool := fun _ ds => decide (uptoBulkAll ds ≤ 1048576)
def OpenSpec.upto (s : _root_.Go.ChangeSpec) : _root_.Go.OpenSpec := { _root_.Go.OpenSpec.ofChange s with cond := some uptoSmall }

/-- 'laws.FnCube', WHERE WHAT IT READS IS OF BULK AT MOST 1048576: true; the input reads as it did. -/
def fnCubeUptoRow : OpenClaim := { program := "ytaemjijkolnheaa", sum := "addcea8ec7442f10d66bf36b5e7234e79b3fc7ff834953c3e3642f37fcac2824", func := "loop.example/g00559/laws.FnCube", spec := "fnCube", unfollowed := true, recurses := true, apart := false, narrowed := true }
def FnCubeUptoSaid : Prop := fnCubeUptoRow.holds Try.pinned (OpenSpec.upto fnCubeSpec)

/-- 'laws.FnCubic', WHERE WHAT IT READS IS OF BULK AT MOST 1048576: true; the input reads as it did. -/
def fnCubicUptoRow : OpenClaim := { program := "ytaemjijkolnheaa", sum := "addcea8ec7442f10d66bf36b5e7234e79b3fc7ff834953c3e3642f37fcac2824", func := "loop.example/g00559/laws.FnCubic", spec := "fnCubic", unfollowed := true, recurses := true, apart := false, narrowed := true }
def FnCubicUptoSaid : Prop := fnCubicUptoRow.holds Try.pinned (OpenSpec.upto fnCubicSpec)

/-- 'laws.FnCubeMoves', WHERE WHAT IT READS IS OF BULK AT MOST 1048576: true; the input reads as it did. -/
def fnCubeMovesUptoRow : OpenClaim := { program := "ytaemjijkolnheaa", sum := "addcea8ec7442f10d66bf36b5e7234e79b3fc7ff834953c3e3642f37fcac2824", func := "loop.example/g00559/laws.FnCubeMoves", spec := "fnCubeMoves", unfollowed := true, recurses := true, apart := false, narrowed := true }
def FnCubeMovesUptoSaid : Prop := fnCubeMovesUptoRow.holds Try.pinned (OpenSpec.upto fnCubeMovesSpec)

/-- 'laws.FnExactCubeRoot', WHERE WHAT IT READS IS OF BULK AT MOST 1048576: true; the input reads as it did. -/
def fnExactCubeRootUptoRow : OpenClaim := { program := "ytaemjijkolnheaa", sum := "addcea8ec7442f10d66bf36b5e7234e79b3fc7ff834953c3e3642f37fcac2824", func := "loop.example/g00559/laws.FnExactCubeRoot", spec := "fnExactCubeRoot", unfollowed := true, recurses := true, apart := false, narrowed := true }
def FnExactCubeRootUptoSaid : Prop := fnExactCubeRootUptoRow.holds Try.pinned (OpenSpec.upto fnExactCubeRootSpec)

/-- 'laws.FnExactCubicK', WHERE WHAT IT READS IS OF BULK AT MOST 1048576: true; the input reads as it did. -/
def fnExactCubicKUptoRow : OpenClaim := { program := "ytaemjijkolnheaa", sum := "addcea8ec7442f10d66bf36b5e7234e79b3fc7ff834953c3e3642f37fcac2824", func := "loop.example/g00559/laws.FnExactCubicK", spec := "fnExactCubicK", unfollowed := true, recurses := true, apart := false, narrowed := true }
def FnExactCubicKUptoSaid : Prop := fnExactCubicKUptoRow.holds Try.pinned (OpenSpec.upto fnExactCubicKSpec)

/-- 'laws.FnExactCubicWin', WHERE WHAT IT READS IS OF BULK AT MOST 1048576: true; the input reads as it did. -/
def fnExactCubicWinUptoRow : OpenClaim := { program := "ytaemjijkolnheaa", sum := "addcea8ec7442f10d66bf36b5e7234e79b3fc7ff834953c3e3642f37fcac2824", func := "loop.example/g00559/laws.FnExactCubicWin", spec := "fnExactCubicWin", unfollowed := true, recurses := true, apart := false, narrowed := true }
def FnExactCubicWinUptoSaid : Prop := fnExactCubicWinUptoRow.holds Try.pinned (OpenSpec.upto fnExactCubicWinSpec)

end Rows
end Go.Proofs.Ytaemjijkolnheaa
