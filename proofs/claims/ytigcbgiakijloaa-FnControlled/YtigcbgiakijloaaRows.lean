/-
  No cell of these rows narrows 'for every input' (looked for: loops, veiled, ifaces, maps, wideKeys, modest, calm, conditions, laid).
  DERIVED. THE GIVEN ROWS OF THIS SEAT. 5 by the template 'for every input the law returns true; each argument reads behind the call as it read before'; 0 by the template 'total and deterministic' (their statements: YtigcbgiakijloaaTotals.lean).
  GIVEN WITH THE SEED: the statements are not yours to turn. If you find one false, say at which input.
  Laid BY PROGRAM, IN A SANDBOX (cutbox-rows.mjs): the forced cells as the released guide's own fill.sh prints them over the translation 7b4424146634abf7… (all of the seat's roots in one cut). By AI agents, Wed Nov 11 2026. No macro, syntax, notation, axiom, sorry.
-/
import Derived.Test.YtigcbgiakijloaaChecked
import GoSem.Claim
import GoSem.ClaimJoined
import GoSem.ClaimMapViews
import Derived.JoinedTies
import Derived.KernelRfl
namespace Go.Proofs.Ytigcbgiakijloaa
/- THE CELL 'sum', in the pinned program and in every row, IS THE sha256 OF THE DUMP (.gsa) THAT YtigcbgiakijloaaProg.lean LOADS. Nothing in Lean hashes anything: it is a label: what it is worth is what the hold of that sum in a sandbox is worth. -/
noncomputable def Try.pinned : Pinned := { name := "ytigcbgiakijloaa", sum := "7b4424146634abf7092b19275a86fe27eef769eb724044f6297f24aa97928179", checked := Try.checked }
namespace Rows
def none {H : Type} : Left H := { results := [], args := [] }

/-- 'laws.FnDrumPieces': WHATEVER THE INPUT: true; the input reads as it did. -/
def fnDrumPiecesSpec : ChangeSpec := { name := "fnDrumPieces", fn := fun _ => fun
  | [d] => { results := [.lit (.bool true)], args := [d] }
  | _ => none }
def fnDrumPiecesRow : OpenClaim := { program := "ytigcbgiakijloaa", sum := "7b4424146634abf7092b19275a86fe27eef769eb724044f6297f24aa97928179", func := "loop.example/g00062/laws.FnDrumPieces", spec := "fnDrumPieces", apart := false }
def FnDrumPiecesSaid : Prop := fnDrumPiecesRow.holds Try.pinned (OpenSpec.ofChange fnDrumPiecesSpec)

/-- ITS FALSE NEIGHBOUR: 'it returns false'. Refute it at one input. -/
def fnDrumPiecesWrong : ChangeSpec := { name := "fnDrumPieces", fn := fun _ => fun
  | [d] => { results := [.lit (.bool false)], args := [d] }
  | _ => none }
def FnDrumPiecesWrongFalsely : Prop := fnDrumPiecesRow.holds Try.pinned (OpenSpec.ofChange fnDrumPiecesWrong)

/-- 'laws.FnControlled': WHATEVER THE INPUT: true; the input reads as it did. -/
def fnControlledSpec : ChangeSpec := { name := "fnControlled", fn := fun _ => fun
  | [d] => { results := [.lit (.bool true)], args := [d] }
  | _ => none }
def fnControlledRow : OpenClaim := { program := "ytigcbgiakijloaa", sum := "7b4424146634abf7092b19275a86fe27eef769eb724044f6297f24aa97928179", func := "loop.example/g00062/laws.FnControlled", spec := "fnControlled", apart := false }
def FnControlledSaid : Prop := fnControlledRow.holds Try.pinned (OpenSpec.ofChange fnControlledSpec)

/-- ITS FALSE NEIGHBOUR: 'it returns false'. Refute it at one input. -/
def fnControlledWrong : ChangeSpec := { name := "fnControlled", fn := fun _ => fun
  | [d] => { results := [.lit (.bool false)], args := [d] }
  | _ => none }
def FnControlledWrongFalsely : Prop := fnControlledRow.holds Try.pinned (OpenSpec.ofChange fnControlledWrong)

/-- 'laws.FnExactDrumStep': WHATEVER THE INPUT: true; the input reads as it did. -/
def fnExactDrumStepSpec : ChangeSpec := { name := "fnExactDrumStep", fn := fun _ => fun
  | [d1, d2, d3, d4] => { results := [.lit (.bool true)], args := [d1, d2, d3, d4] }
  | _ => none }
def fnExactDrumStepRow : OpenClaim := { program := "ytigcbgiakijloaa", sum := "7b4424146634abf7092b19275a86fe27eef769eb724044f6297f24aa97928179", func := "loop.example/g00062/laws.FnExactDrumStep", spec := "fnExactDrumStep", apart := false }
def FnExactDrumStepSaid : Prop := fnExactDrumStepRow.holds Try.pinned (OpenSpec.ofChange fnExactDrumStepSpec)

/-- ITS FALSE NEIGHBOUR: 'it returns false'. Refute it at one input. -/
def fnExactDrumStepWrong : ChangeSpec := { name := "fnExactDrumStep", fn := fun _ => fun
  | [d1, d2, d3, d4] => { results := [.lit (.bool false)], args := [d1, d2, d3, d4] }
  | _ => none }
def FnExactDrumStepWrongFalsely : Prop := fnExactDrumStepRow.holds Try.pinned (OpenSpec.ofChange fnExactDrumStepWrong)

/-- 'laws.FnExactDrumRun': WHATEVER THE INPUT: true; the input reads as it did. -/
def fnExactDrumRunSpec : ChangeSpec := { name := "fnExactDrumRun", fn := fun _ => fun
  | [d1, d2] => { results := [.lit (.bool true)], args := [d1, d2] }
  | _ => none }
def fnExactDrumRunRow : OpenClaim := { program := "ytigcbgiakijloaa", sum := "7b4424146634abf7092b19275a86fe27eef769eb724044f6297f24aa97928179", func := "loop.example/g00062/laws.FnExactDrumRun", spec := "fnExactDrumRun", apart := false }
def FnExactDrumRunSaid : Prop := fnExactDrumRunRow.holds Try.pinned (OpenSpec.ofChange fnExactDrumRunSpec)

/-- ITS FALSE NEIGHBOUR: 'it returns false'. Refute it at one input. -/
def fnExactDrumRunWrong : ChangeSpec := { name := "fnExactDrumRun", fn := fun _ => fun
  | [d1, d2] => { results := [.lit (.bool false)], args := [d1, d2] }
  | _ => none }
def FnExactDrumRunWrongFalsely : Prop := fnExactDrumRunRow.holds Try.pinned (OpenSpec.ofChange fnExactDrumRunWrong)

/-- 'laws.FnExactControlled': WHATEVER THE INPUT: true; the input reads as it did. -/
def fnExactControlledSpec : ChangeSpec := { name := "fnExactControlled", fn := fun _ => fun
  | [d1, d2, d3, d4] => { results := [.lit (.bool true)], args := [d1, d2, d3, d4] }
  | _ => none }
def fnExactControlledRow : OpenClaim := { program := "ytigcbgiakijloaa", sum := "7b4424146634abf7092b19275a86fe27eef769eb724044f6297f24aa97928179", func := "loop.example/g00062/laws.FnExactControlled", spec := "fnExactControlled", apart := false }
def FnExactControlledSaid : Prop := fnExactControlledRow.holds Try.pinned (OpenSpec.ofChange fnExactControlledSpec)

/-- ITS FALSE NEIGHBOUR: 'it returns false'. Refute it at one input. -/
def fnExactControlledWrong : ChangeSpec := { name := "fnExactControlled", fn := fun _ => fun
  | [d1, d2, d3, d4] => { results := [.lit (.bool false)], args := [d1, d2, d3, d4] }
  | _ => none }
def FnExactControlledWrongFalsely : Prop := fnExactControlledRow.holds Try.pinned (OpenSpec.ofChange fnExactControlledWrong)

/- THE SECOND FORM. 'bulk': how many values and letters a reading holds, each counted each time it is reached (what is shared counts as often as it is met; a slice's spare places count too). A statement '..UptoSaid' is the law's where the arguments, and the package variables that the reading takes, are together of bulk at most 1048576: NARROWER than '..Said'. Prove '..Said' where nothing that the law and all that it calls make is longer than what came in: it says more and counts as full. Else prove '..UptoSaid'. A law counts once. -/
mutual
def uptoBulk {H : Type} : DataW H → Nat
  | .lit (.string bytes) => bytes.length + 1
  | .lit _ => 1
  | .nil => 1
  | .ptr d => uptoBulk d + 1
  | .slice elems spare => uptoBulkAll elems + uptoBulkAll spare + 1
  | .agg parts => uptoBulkAll parts + 1
  | .iface _ d => uptoBulk d + 1
  | .map entries => uptoBulkEntries entries + 1
  | .held _ => 1
def uptoBulkAll {H : Type} : List (DataW H) → Nat
  | [] => 0
  | d :: r => uptoBulk d + uptoBulkAll r
def uptoBulkEntries {H : Type} : List (Lit × DataW H) → Nat
  | [] => 0
  | x :: r => uptoBulkEntry x + uptoBulkEntries r
def uptoBulkEntry {H : Type} : Lit × DataW H → Nat
  | (.string bytes, d) => bytes.length + uptoBulk d + 1
  | (_, d) => uptoBulk d + 1
 end
def uptoSmall : (H : Type) → List (DataW H) → Bool := fun _ ds => decide (uptoBulkAll ds ≤ 1048576)
def OpenSpec.upto (s : _root_.Go.ChangeSpec) : _root_.Go.OpenSpec := { _root_.Go.OpenSpec.ofChange s with cond := some uptoSmall }

/-- 'laws.FnDrumPieces', WHERE WHAT IT READS IS OF BULK AT MOST 1048576: true; the input reads as it did. -/
def fnDrumPiecesUptoRow : OpenClaim := { program := "ytigcbgiakijloaa", sum := "7b4424146634abf7092b19275a86fe27eef769eb724044f6297f24aa97928179", func := "loop.example/g00062/laws.FnDrumPieces", spec := "fnDrumPieces", apart := false, narrowed := true }
def FnDrumPiecesUptoSaid : Prop := fnDrumPiecesUptoRow.holds Try.pinned (OpenSpec.upto fnDrumPiecesSpec)

/-- 'laws.FnControlled', WHERE WHAT IT READS IS OF BULK AT MOST 1048576: true; the input reads as it did. -/
def fnControlledUptoRow : OpenClaim := { program := "ytigcbgiakijloaa", sum := "7b4424146634abf7092b19275a86fe27eef769eb724044f6297f24aa97928179", func := "loop.example/g00062/laws.FnControlled", spec := "fnControlled", apart := false, narrowed := true }
def FnControlledUptoSaid : Prop := fnControlledUptoRow.holds Try.pinned (OpenSpec.upto fnControlledSpec)

/-- 'laws.FnExactDrumStep', WHERE WHAT IT READS IS OF BULK AT MOST 1048576: true; the input reads as it did. -/
def fnExactDrumStepUptoRow : OpenClaim := { program := "ytigcbgiakijloaa", sum := "7b4424146634abf7092b19275a86fe27eef769eb724044f6297f24aa97928179", func := "loop.example/g00062/laws.FnExactDrumStep", spec := "fnExactDrumStep", apart := false, narrowed := true }
def FnExactDrumStepUptoSaid : Prop := fnExactDrumStepUptoRow.holds Try.pinned (OpenSpec.upto fnExactDrumStepSpec)

/-- 'laws.FnExactDrumRun', WHERE WHAT IT READS IS OF BULK AT MOST 1048576: true; the input reads as it did. -/
def fnExactDrumRunUptoRow : OpenClaim := { program := "ytigcbgiakijloaa", sum := "7b4424146634abf7092b19275a86fe27eef769eb724044f6297f24aa97928179", func := "loop.example/g00062/laws.FnExactDrumRun", spec := "fnExactDrumRun", apart := false, narrowed := true }
def FnExactDrumRunUptoSaid : Prop := fnExactDrumRunUptoRow.holds Try.pinned (OpenSpec.upto fnExactDrumRunSpec)

/-- 'laws.FnExactControlled', WHERE WHAT IT READS IS OF BULK AT MOST 1048576: true; the input reads as it did. -/
def fnExactControlledUptoRow : OpenClaim := { program := "ytigcbgiakijloaa", sum := "7b4424146634abf7092b19275a86fe27eef769eb724044f6297f24aa97928179", func := "loop.example/g00062/laws.FnExactControlled", spec := "fnExactControlled", apart := false, narrowed := true }
def FnExactControlledUptoSaid : Prop := fnExactControlledUptoRow.holds Try.pinned (OpenSpec.upto fnExactControlledSpec)

end Rows
end Go.Proofs.Ytigcbgiakijloaa
