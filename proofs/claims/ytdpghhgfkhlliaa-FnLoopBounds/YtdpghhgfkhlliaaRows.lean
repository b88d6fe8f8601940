/-
  No cell of these rows narrows 'for every input' (looked for: loops, veiled, ifaces, maps, wideKeys, modest, calm, conditions, laid).
  DERIVED. THE GIVEN ROWS OF THIS SEAT. 4 by the template 'for every input the law returns true; each argument reads behind the call as it read before'; 0 by the template 'total and deterministic' (their statements: YtdpghhgfkhlliaaTotals.lean).
  GIVEN WITH THE SEED: the statements are not yours to turn. If you find one false, say at which input.
  Laid BY PROGRAM, IN A SANDBOX (cutbox-rows.mjs): the forced cells as the released guide's own fill.sh prints them over the translation 20de0f5a687e3909… (all of the seat's roots in one cut). By AI agents, Wed Nov 11 2026. No macro, syntax, notation, axiom, sorry.
-/
import Derived.Test.YtdpghhgfkhlliaaChecked
import GoSem.Claim
import GoSem.ClaimJoined
import GoSem.ClaimMapViews
import Derived.JoinedTies
import Derived.KernelRfl
namespace Go.Proofs.Ytdpghhgfkhlliaa
/- THE CELL 'sum', in the pinned program and in every row, IS THE sha256 OF THE DUMP (.gsa) THAT YtdpghhgfkhlliaaProg.lean LOADS. Nothing in Lean hashes anything: it is a label: what it is worth is what the hold of that sum in a sandbox is worth. -/
noncomputable def Try.pinned : Pinned := { name := "ytdpghhgfkhlliaa", sum := "20de0f5a687e3909b830e9f8fcd4b9e1910c4f1d30b277e47c2f2fd789790355", checked := Try.checked }
namespace Rows
def none {H : Type} : Left H := { results := [], args := [] }

/-- 'laws.FnExactLoopOk': WHATEVER THE INPUT: true; the input reads as it did. -/
def fnExactLoopOkSpec : ChangeSpec := { name := "fnExactLoopOk", fn := fun _ => fun
  | [d1, d2] => { results := [.lit (.bool true)], args := [d1, d2] }
  | _ => none }
def fnExactLoopOkRow : OpenClaim := { program := "ytdpghhgfkhlliaa", sum := "20de0f5a687e3909b830e9f8fcd4b9e1910c4f1d30b277e47c2f2fd789790355", func := "loop.example/g00062/laws.FnExactLoopOk", spec := "fnExactLoopOk", apart := false }
def FnExactLoopOkSaid : Prop := fnExactLoopOkRow.holds Try.pinned (OpenSpec.ofChange fnExactLoopOkSpec)

/-- ITS FALSE NEIGHBOUR: 'it returns false'. Refute it at one input. -/
def fnExactLoopOkWrong : ChangeSpec := { name := "fnExactLoopOk", fn := fun _ => fun
  | [d1, d2] => { results := [.lit (.bool false)], args := [d1, d2] }
  | _ => none }
def FnExactLoopOkWrongFalsely : Prop := fnExactLoopOkRow.holds Try.pinned (OpenSpec.ofChange fnExactLoopOkWrong)

/-- 'laws.FnExactLoopStep': WHATEVER THE INPUT: true; the input reads as it did. -/
def fnExactLoopStepSpec : ChangeSpec := { name := "fnExactLoopStep", fn := fun _ => fun
  | [d1, d2, d3, d4] => { results := [.lit (.bool true)], args := [d1, d2, d3, d4] }
  | _ => none }
def fnExactLoopStepRow : OpenClaim := { program := "ytdpghhgfkhlliaa", sum := "20de0f5a687e3909b830e9f8fcd4b9e1910c4f1d30b277e47c2f2fd789790355", func := "loop.example/g00062/laws.FnExactLoopStep", spec := "fnExactLoopStep", apart := false }
def FnExactLoopStepSaid : Prop := fnExactLoopStepRow.holds Try.pinned (OpenSpec.ofChange fnExactLoopStepSpec)

/-- ITS FALSE NEIGHBOUR: 'it returns false'. Refute it at one input. -/
def fnExactLoopStepWrong : ChangeSpec := { name := "fnExactLoopStep", fn := fun _ => fun
  | [d1, d2, d3, d4] => { results := [.lit (.bool false)], args := [d1, d2, d3, d4] }
  | _ => none }
def FnExactLoopStepWrongFalsely : Prop := fnExactLoopStepRow.holds Try.pinned (OpenSpec.ofChange fnExactLoopStepWrong)

/-- 'laws.FnExactLoopRun': WHATEVER THE INPUT: true; the input reads as it did. -/
def fnExactLoopRunSpec : ChangeSpec := { name := "fnExactLoopRun", fn := fun _ => fun
  | [d1, d2, d3, d4] => { results := [.lit (.bool true)], args := [d1, d2, d3, d4] }
  | _ => none }
def fnExactLoopRunRow : OpenClaim := { program := "ytdpghhgfkhlliaa", sum := "20de0f5a687e3909b830e9f8fcd4b9e1910c4f1d30b277e47c2f2fd789790355", func := "loop.example/g00062/laws.FnExactLoopRun", spec := "fnExactLoopRun", apart := false }
def FnExactLoopRunSaid : Prop := fnExactLoopRunRow.holds Try.pinned (OpenSpec.ofChange fnExactLoopRunSpec)

/-- ITS FALSE NEIGHBOUR: 'it returns false'. Refute it at one input. -/
def fnExactLoopRunWrong : ChangeSpec := { name := "fnExactLoopRun", fn := fun _ => fun
  | [d1, d2, d3, d4] => { results := [.lit (.bool false)], args := [d1, d2, d3, d4] }
  | _ => none }
def FnExactLoopRunWrongFalsely : Prop := fnExactLoopRunRow.holds Try.pinned (OpenSpec.ofChange fnExactLoopRunWrong)

/-- 'laws.FnLoopBounds': WHATEVER THE INPUT: true; the input reads as it did. -/
def fnLoopBoundsSpec : ChangeSpec := { name := "fnLoopBounds", fn := fun _ => fun
  | [d] => { results := [.lit (.bool true)], args := [d] }
  | _ => none }
def fnLoopBoundsRow : OpenClaim := { program := "ytdpghhgfkhlliaa", sum := "20de0f5a687e3909b830e9f8fcd4b9e1910c4f1d30b277e47c2f2fd789790355", func := "loop.example/g00062/laws.FnLoopBounds", spec := "fnLoopBounds", apart := false }
def FnLoopBoundsSaid : Prop := fnLoopBoundsRow.holds Try.pinned (OpenSpec.ofChange fnLoopBoundsSpec)

/-- ITS FALSE NEIGHBOUR: 'it returns false'. Refute it at one input. -/
def fnLoopBoundsWrong : ChangeSpec := { name := "fnLoopBounds", fn := fun _ => fun
  | [d] => { results := [.lit (.bool false)], args := [d] }
  | _ => none }
def FnLoopBoundsWrongFalsely : Prop := fnLoopBoundsRow.holds Try.pinned (OpenSpec.ofChange fnLoopBoundsWrong)

/- THE SECOND FORM. 'bulk': how many values and letters a reading holds, each counted each time it is reached (what is shared counts as often as it is met; a slice's spare places count too). A statement '..UptoSaid' is the law's where the arguments, and the package variables that the reading takes, are together of bulk at most 1048576: NARROWER than '..Said'. Prove '..Said' where nothing that the law and all that it calls make is longer than what came in: it says more and counts as full. Else prove '..UptoSaid'. A law counts once. -/
mutual
def uptoBulk {H : Type} : DataW H → Nat
  | .lit (.string bytes) => bytes.length + 1
  | .lit _ => 1
  | .nil => 1
  | .ptr d => uptoBulk d + 1
  | .slice elems spare => uptoBulkAll elems + uptoBulkAll spare + 1
  | .agg parts => uptoBulkAll parts + 1
  | .iface _ d => uptoBulk d + 1
  | .map entries => uptoBulkEntries entries + 1
  | .held _ => 1
def uptoBulkAll {H : Type} : List (DataW H) → Nat
  | [] => 0
  | d :: r => uptoBulk d + uptoBulkAll r
def uptoBulkEntries {H : Type} : List (Lit × DataW H) → Nat
  | [] => 0
  | x :: r => uptoBulkEntry x + uptoBulkEntries r
def uptoBulkEntry {H : Type} : Lit × DataW H → Nat
  | (.string bytes, d) => bytes.length + uptoBulk d + 1
  | (_, d) => uptoBulk d + 1
 end
def uptoSmall : (H : Type) → List (DataW H) → Bool := fun _ ds => decide (uptoBulkAll ds ≤ 1048576)
def OpenSpec.upto (s : _root_.Go.ChangeSpec) : _root_.Go.OpenSpec := { _root_.Go.OpenSpec.ofChange s with cond := some uptoSmall }

/-- 'laws.FnExactLoopOk', WHERE WHAT IT READS IS OF BULK AT MOST 1048576: true; the input reads as it did. -/
def fnExactLoopOkUptoRow : OpenClaim := { program := "ytdpghhgfkhlliaa", sum := "20de0f5a687e3909b830e9f8fcd4b9e1910c4f1d30b277e47c2f2fd789790355", func := "loop.example/g00062/laws.FnExactLoopOk", spec := "fnExactLoopOk", apart := false, narrowed := true }
def FnExactLoopOkUptoSaid : Prop := fnExactLoopOkUptoRow.holds Try.pinned (OpenSpec.upto fnExactLoopOkSpec)

/-- 'laws.FnExactLoopStep', WHERE WHAT IT READS IS OF BULK AT MOST 1048576: true; the input reads as it did. -/
def fnExactLoopStepUptoRow : OpenClaim := { program := "ytdpghhgfkhlliaa", sum := "20de0f5a687e3909b830e9f8fcd4b9e1910c4f1d30b277e47c2f2fd789790355", func := "loop.example/g00062/laws.FnExactLoopStep", spec := "fnExactLoopStep", apart := false, narrowed := true }
def FnExactLoopStepUptoSaid : Prop := fnExactLoopStepUptoRow.holds Try.pinned (OpenSpec.upto fnExactLoopStepSpec)

/-- 'laws.FnExactLoopRun', WHERE WHAT IT READS IS OF BULK AT MOST 1048576: true; the input reads as it did. -/
def fnExactLoopRunUptoRow : OpenClaim := { program := "ytdpghhgfkhlliaa", sum := "20de0f5a687e3909b830e9f8fcd4b9e1910c4f1d30b277e47c2f2fd789790355", func := "loop.example/g00062/laws.FnExactLoopRun", spec := "fnExactLoopRun", apart := false, narrowed := true }
def FnExactLoopRunUptoSaid : Prop := fnExactLoopRunUptoRow.holds Try.pinned (OpenSpec.upto fnExactLoopRunSpec)

/-- 'laws.FnLoopBounds', WHERE WHAT IT READS IS OF BULK AT MOST 1048576: true; the input reads as it did. -/
def fnLoopBoundsUptoRow : OpenClaim := { program := "ytdpghhgfkhlliaa", sum := "20de0f5a687e3909b830e9f8fcd4b9e1910c4f1d30b277e47c2f2fd789790355", func := "loop.example/g00062/laws.FnLoopBounds", spec := "fnLoopBounds", apart := false, narrowed := true }
def FnLoopBoundsUptoSaid : Prop := fnLoopBoundsUptoRow.holds Try.pinned (OpenSpec.upto fnLoopBoundsSpec)

end Rows
end Go.Proofs.Ytdpghhgfkhlliaa
