/-
  No cell of these rows narrows 'for every input' (looked for: loops, veiled, ifaces, maps, wideKeys, modest, calm, conditions, laid).
  DERIVED. THE GIVEN ROWS OF THIS SEAT. 4 by the template 'for every input the law returns true; each argument reads behind the call as it read before'; 0 by the template 'total and deterministic' (their statements: YtjiojofgpdimaaaTotals.lean).
  GIVEN WITH THE SEED: the statements are not yours to turn. If you find one false, say at which input.
  Laid BY PROGRAM, IN A SANDBOX (cutbox-rows.mjs): the forced cells as the released guide's own fill.sh prints them over the translation 37749834edfade6e… (all of the seat's roots in one cut). By AI agents, Wed Nov 11 2026. No macro, syntax, notation, axiom, sorry.
-/
import Derived.Test.YtjiojofgpdimaaaChecked
import GoSem.Claim
import GoSem.ClaimJoined
import GoSem.ClaimMapViews
import Derived.JoinedTies
import Derived.KernelRfl
namespace Go.Proofs.Ytjiojofgpdimaaa
/- THE CELL 'sum', in the pinned program and in every row, IS THE sha256 OF THE DUMP (.gsa) THAT YtjiojofgpdimaaaProg.lean LOADS. Nothing in Lean hashes anything: it is a label: what it is worth is what the hold of that sum in a sandbox is worth. -/
noncomputable def Try.pinned : Pinned := { name := "ytjiojofgpdimaaa", sum := "37749834edfade6ebd762be22201d5b80348441217464dcac6fc205e17ac8591", checked := Try.checked }
namespace Rows
def none {H : Type} : Left H := { results := [], args := [] }

/-- 'laws.FnDrumBook': WHATEVER THE INPUT: true; the input reads as it did. -/
def fnDrumBookSpec : ChangeSpec := { name := "fnDrumBook", fn := fun _ => fun
  | [d] => { results := [.lit (.bool true)], args := [d] }
  | _ => none }
def fnDrumBookRow : OpenClaim := { program := "ytjiojofgpdimaaa", sum := "37749834edfade6ebd762be22201d5b80348441217464dcac6fc205e17ac8591", func := "loop.example/g00062/laws.FnDrumBook", spec := "fnDrumBook", apart := false }
def FnDrumBookSaid : Prop := fnDrumBookRow.holds Try.pinned (OpenSpec.ofChange fnDrumBookSpec)

/-- ITS FALSE NEIGHBOUR: 'it returns false'. Refute it at one input. -/
def fnDrumBookWrong : ChangeSpec := { name := "fnDrumBook", fn := fun _ => fun
  | [d] => { results := [.lit (.bool false)], args := [d] }
  | _ => none }
def FnDrumBookWrongFalsely : Prop := fnDrumBookRow.holds Try.pinned (OpenSpec.ofChange fnDrumBookWrong)

/-- 'laws.FnExactDrumStep': WHATEVER THE INPUT: true; the input reads as it did. -/
def fnExactDrumStepSpec : ChangeSpec := { name := "fnExactDrumStep", fn := fun _ => fun
  | [d1, d2, d3, d4] => { results := [.lit (.bool true)], args := [d1, d2, d3, d4] }
  | _ => none }
def fnExactDrumStepRow : OpenClaim := { program := "ytjiojofgpdimaaa", sum := "37749834edfade6ebd762be22201d5b80348441217464dcac6fc205e17ac8591", func := "loop.example/g00062/laws.FnExactDrumStep", spec := "fnExactDrumStep", apart := false }
def FnExactDrumStepSaid : Prop := fnExactDrumStepRow.holds Try.pinned (OpenSpec.ofChange fnExactDrumStepSpec)

/-- ITS FALSE NEIGHBOUR: 'it returns false'. Refute it at one input. -/
def fnExactDrumStepWrong : ChangeSpec := { name := "fnExactDrumStep", fn := fun _ => fun
  | [d1, d2, d3, d4] => { results := [.lit (.bool false)], args := [d1, d2, d3, d4] }
  | _ => none }
def FnExactDrumStepWrongFalsely : Prop := fnExactDrumStepRow.holds Try.pinned (OpenSpec.ofChange fnExactDrumStepWrong)

/-- 'laws.FnExactDrumRun': WHATEVER THE INPUT: true; the input reads as it did. -/
def fnExactDrumRunSpec : ChangeSpec := { name := "fnExactDrumRun", fn := fun _ => fun
  | [d1, d2] => { results := [.lit (.bool true)], args := [d1, d2] }
  | _ => none }
def fnExactDrumRunRow : OpenClaim := { program := "ytjiojofgpdimaaa", sum := "37749834edfade6ebd762be22201d5b80348441217464dcac6fc205e17ac8591", func := "loop.example/g00062/laws.FnExactDrumRun", spec := "fnExactDrumRun", apart := false }
def FnExactDrumRunSaid : Prop := fnExactDrumRunRow.holds Try.pinned (OpenSpec.ofChange fnExactDrumRunSpec)

/-- ITS FALSE NEIGHBOUR: 'it returns false'. Refute it at one input. -/
def fnExactDrumRunWrong : ChangeSpec := { name := "fnExactDrumRun", fn := fun _ => fun
  | [d1, d2] => { results := [.lit (.bool false)], args := [d1, d2] }
  | _ => none }
def FnExactDrumRunWrongFalsely : Prop := fnExactDrumRunRow.holds Try.pinned (OpenSpec.ofChange fnExactDrumRunWrong)

/-- 'laws.FnExactLevelOf': WHATEVER THE INPUT: true; the input reads as it did. -/
def fnExactLevelOfSpec : ChangeSpec := { name := "fnExactLevelOf", fn := fun _ => fun
  | [d] => { results := [.lit (.bool true)], args := [d] }
  | _ => none }
def fnExactLevelOfRow : OpenClaim := { program := "ytjiojofgpdimaaa", sum := "37749834edfade6ebd762be22201d5b80348441217464dcac6fc205e17ac8591", func := "loop.example/g00062/laws.FnExactLevelOf", spec := "fnExactLevelOf", apart := false }
def FnExactLevelOfSaid : Prop := fnExactLevelOfRow.holds Try.pinned (OpenSpec.ofChange fnExactLevelOfSpec)

/-- ITS FALSE NEIGHBOUR: 'it returns false'. Refute it at one input. -/
def fnExactLevelOfWrong : ChangeSpec := { name := "fnExactLevelOf", fn := fun _ => fun
  | [d] => { results := [.lit (.bool false)], args := [d] }
  | _ => none }
def FnExactLevelOfWrongFalsely : Prop := fnExactLevelOfRow.holds Try.pinned (OpenSpec.ofChange fnExactLevelOfWrong)

/- THE SECOND FORM. 'bulk': how many values and letters a reading holds, each counted each time it is reached (what is shared counts as often as it is met; a slice's spare places count too). A statement '..UptoSaid' is the law's where the arguments, and the package variables that the reading takes, are together of bulk at most 1048576: NARROWER than '..Said'. Prove '..Said' where nothing that the law and all that it calls make is longer than what came in: it says more and counts as full. Else prove '..UptoSaid'. A law counts once. -/
mutual
def uptoBulk {H : Type} : DataW H → Nat
  | .lit (.string bytes) => bytes.length + 1
  | .lit _ => 1
  | .nil => 1
  | .ptr d => uptoBulk d + 1
  | .slice elems spare => uptoBulkAll elems + uptoBulkAll spare + 1
  | .agg parts => uptoBulkAll parts + 1
  | .iface _ d => uptoBulk d + 1
  | .map entries => uptoBulkEntries entries + 1
  | .held _ => 1
def uptoBulkAll {H : Type} : List (DataW H) → Nat
  | [] => 0
  | d :: r => uptoBulk d + uptoBulkAll r
def uptoBulkEntries {H : Type} : List (Lit × DataW H) → Nat
  | [] => 0
  | x :: r => uptoBulkEntry x + uptoBulkEntries r
def uptoBulkEntry {H : Type} : Lit × DataW H → Nat
  | (.string bytes, d) => bytes.length + uptoBulk d + 1
  | (_, d) => uptoBulk d + 1
 end
def uptoSmall : (H : Type) → List (DataW H) → Bool := fun _ ds => decide (uptoBulkAll ds ≤ 1048576)
def OpenSpec.upto (s : _root_.Go.ChangeSpec) : _root_.Go.OpenSpec := { _root_.Go.OpenSpec.ofChange s with cond := some uptoSmall }

/-- 'laws.FnDrumBook', WHERE WHAT IT READS IS OF BULK AT MOST 1048576: true; the input reads as it did. -/
def fnDrumBookUptoRow : OpenClaim := { program := "ytjiojofgpdimaaa", sum := "37749834edfade6ebd762be22201d5b80348441217464dcac6fc205e17ac8591", func := "loop.example/g00062/laws.FnDrumBook", spec := "fnDrumBook", apart := false, narrowed := true }
def FnDrumBookUptoSaid : Prop := fnDrumBookUptoRow.holds Try.pinned (OpenSpec.upto fnDrumBookSpec)

/-- 'laws.FnExactDrumStep', WHERE WHAT IT READS IS OF BULK AT MOST 1048576: true; the input reads as it did. -/
def fnExactDrumStepUptoRow : OpenClaim := { program := "ytjiojofgpdimaaa", sum := "37749834edfade6ebd762be22201d5b80348441217464dcac6fc205e17ac8591", func := "loop.example/g00062/laws.FnExactDrumStep", spec := "fnExactDrumStep", apart := false, narrowed := true }
def FnExactDrumStepUptoSaid : Prop := fnExactDrumStepUptoRow.holds Try.pinned (OpenSpec.upto fnExactDrumStepSpec)

/-- 'laws.FnExactDrumRun', WHERE WHAT IT READS IS OF BULK AT MOST 1048576: true; the input reads as it did. -/
def fnExactDrumRunUptoRow : OpenClaim := { program := "ytjiojofgpdimaaa", sum := "37749834edfade6ebd762be22201d5b80348441217464dcac6fc205e17ac8591", func := "loop.example/g00062/laws.FnExactDrumRun", spec := "fnExactDrumRun", apart := false, narrowed := true }
def FnExactDrumRunUptoSaid : Prop := fnExactDrumRunUptoRow.holds Try.pinned (OpenSpec.upto fnExactDrumRunSpec)

/-- 'laws.FnExactLevelOf', WHERE WHAT IT READS IS OF BULK AT MOST 1048576: true; the input reads as it did. -/
def fnExactLevelOfUptoRow : OpenClaim := { program := "ytjiojofgpdimaaa", sum := "37749834edfade6ebd762be22201d5b80348441217464dcac6fc205e17ac8591", func := "loop.example/g00062/laws.FnExactLevelOf", spec := "fnExactLevelOf", apart := false, narrowed := true }
def FnExactLevelOfUptoSaid : Prop := fnExactLevelOfUptoRow.holds Try.pinned (OpenSpec.upto fnExactLevelOfSpec)

end Rows
end Go.Proofs.Ytjiojofgpdimaaa
