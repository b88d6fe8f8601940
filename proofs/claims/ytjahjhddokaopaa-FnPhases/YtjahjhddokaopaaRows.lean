/-
  No cell of these rows narrows 'for every input' (looked for: loops, veiled, ifaces, maps, wideKeys, modest, calm, conditions, laid).
  DERIVED. THE GIVEN ROWS OF THIS SEAT. 3 by the template 'for every input the law returns true; each argument reads behind the call as it read before'; 0 by the template 'total and deterministic' (their statements: YtjahjhddokaopaaTotals.lean).
  GIVEN WITH THE SEED: the statements are not yours to turn. If you find one false, say at which input.
  Laid BY PROGRAM, IN A SANDBOX (cutbox-rows.mjs): the forced cells as the released guide's own fill.sh prints them over the translation cbe1b1f00121efb9… (all of the seat's roots in one cut). By AI agents, Wed Nov 11 2026. No macro, syntax, notation, axiom, sorry.
-/
import Derived.Test.YtjahjhddokaopaaChecked
import GoSem.Claim
import GoSem.ClaimJoined
import GoSem.ClaimMapViews
import Derived.JoinedTies
import Derived.KernelRfl
namespace Go.Proofs.Ytjahjhddokaopaa
/- THE CELL 'sum', in the pinned program and in every row, IS THE sha256 OF THE DUMP (.gsa) THAT YtjahjhddokaopaaProg.lean LOADS. Nothing in Lean hashes anything: it is a label: what it is worth is what the hold of that sum in a sandbox is worth. -/
noncomputable def Try.pinned : Pinned := { name := "ytjahjhddokaopaa", sum := "cbe1b1f00121efb97c78416ff73d5d2bb4d54071c9784577a39313e724ce3422", checked := Try.checked }
namespace Rows
def none {H : Type} : Left H := { results := [], args := [] }

/-- 'laws.FnPhases': WHATEVER THE INPUT: true; the input reads as it did. -/
def fnPhasesSpec : ChangeSpec := { name := "fnPhases", fn := fun _ => fun
  | [d] => { results := [.lit (.bool true)], args := [d] }
  | _ => none }
def fnPhasesRow : OpenClaim := { program := "ytjahjhddokaopaa", sum := "cbe1b1f00121efb97c78416ff73d5d2bb4d54071c9784577a39313e724ce3422", func := "loop.example/g00062/laws.FnPhases", spec := "fnPhases", apart := false }
def FnPhasesSaid : Prop := fnPhasesRow.holds Try.pinned (OpenSpec.ofChange fnPhasesSpec)

/-- ITS FALSE NEIGHBOUR: 'it returns false'. Refute it at one input. -/
def fnPhasesWrong : ChangeSpec := { name := "fnPhases", fn := fun _ => fun
  | [d] => { results := [.lit (.bool false)], args := [d] }
  | _ => none }
def FnPhasesWrongFalsely : Prop := fnPhasesRow.holds Try.pinned (OpenSpec.ofChange fnPhasesWrong)

/-- 'laws.FnExactSequence': WHATEVER THE INPUT: true; the input reads as it did. -/
def fnExactSequenceSpec : ChangeSpec := { name := "fnExactSequence", fn := fun _ => fun
  | [d1, d2, d3] => { results := [.lit (.bool true)], args := [d1, d2, d3] }
  | _ => none }
def fnExactSequenceRow : OpenClaim := { program := "ytjahjhddokaopaa", sum := "cbe1b1f00121efb97c78416ff73d5d2bb4d54071c9784577a39313e724ce3422", func := "loop.example/g00062/laws.FnExactSequence", spec := "fnExactSequence", apart := false }
def FnExactSequenceSaid : Prop := fnExactSequenceRow.holds Try.pinned (OpenSpec.ofChange fnExactSequenceSpec)

/-- ITS FALSE NEIGHBOUR: 'it returns false'. Refute it at one input. -/
def fnExactSequenceWrong : ChangeSpec := { name := "fnExactSequence", fn := fun _ => fun
  | [d1, d2, d3] => { results := [.lit (.bool false)], args := [d1, d2, d3] }
  | _ => none }
def FnExactSequenceWrongFalsely : Prop := fnExactSequenceRow.holds Try.pinned (OpenSpec.ofChange fnExactSequenceWrong)

/-- 'laws.FnExactUnsequence': WHATEVER THE INPUT: true; the input reads as it did. -/
def fnExactUnsequenceSpec : ChangeSpec := { name := "fnExactUnsequence", fn := fun _ => fun
  | [d1, d2, d3] => { results := [.lit (.bool true)], args := [d1, d2, d3] }
  | _ => none }
def fnExactUnsequenceRow : OpenClaim := { program := "ytjahjhddokaopaa", sum := "cbe1b1f00121efb97c78416ff73d5d2bb4d54071c9784577a39313e724ce3422", func := "loop.example/g00062/laws.FnExactUnsequence", spec := "fnExactUnsequence", apart := false }
def FnExactUnsequenceSaid : Prop := fnExactUnsequenceRow.holds Try.pinned (OpenSpec.ofChange fnExactUnsequenceSpec)

/-- ITS FALSE NEIGHBOUR: 'it returns false'. Refute it at one input. -/
def fnExactUnsequenceWrong : ChangeSpec := { name := "fnExactUnsequence", fn := fun _ => fun
  | [d1, d2, d3] => { results := [.lit (.bool false)], args := [d1, d2, d3] }
  | _ => none }
def FnExactUnsequenceWrongFalsely : Prop := fnExactUnsequenceRow.holds Try.pinned (OpenSpec.ofChange fnExactUnsequenceWrong)

/- THE SECOND FORM. 'bulk': how many values and letters a reading holds, each counted each time it is reached (what is shared counts as often as it is met; a slice's spare places count too). A statement '..UptoSaid' is the law's where the arguments, and the package variables that the reading takes, are together of bulk at most 1048576: NARROWER than '..Said'. Prove '..Said' where nothing that the law and all that it calls make is longer than what came in: it says more and counts as full. Else prove '..UptoSaid'. A law counts once. -/
mutual
def uptoBulk {H : Type} : DataW H → Nat
  | .lit (.string bytes) => bytes.length + 1
  | .lit _ => 1
  | .nil => 1
  | .ptr d => uptoBulk d + 1
  | .slice elems spare => uptoBulkAll elems + uptoBulkAll spare + 1
  | .agg parts => uptoBulkAll parts + 1
  | .iface _ d => uptoBulk d + 1
  | .map entries => uptoBulkEntries entries + 1
  | .held _ => 1
def uptoBulkAll {H : Type} : List (DataW H) → Nat
  | [] => 0
  | d :: r => uptoBulk d + uptoBulkAll r
def uptoBulkEntries {H : Type} : List (Lit × DataW H) → Nat
  | [] => 0
  | x :: r => uptoBulkEntry x + uptoBulkEntries r
def uptoBulkEntry {H : Type} : Lit × DataW H → Nat
  | (.string bytes, d) => bytes.length + uptoBulk d + 1
  | (_, d) => uptoBulk d + 1
 end
def uptoSmall : (H : Type) → List (DataW H) → Bool := fun _ ds => decide (uptoBulkAll ds ≤ 1048576)
def OpenSpec.upto (s : _root_.Go.ChangeSpec) : _root_.Go.OpenSpec := { _root_.Go.OpenSpec.ofChange s with cond := some uptoSmall }

/-- 'laws.FnPhases', WHERE WHAT IT READS IS OF BULK AT MOST 1048576: true; the input reads as it did. -/
def fnPhasesUptoRow : OpenClaim := { program := "ytjahjhddokaopaa", sum := "cbe1b1f00121efb97c78416ff73d5d2bb4d54071c9784577a39313e724ce3422", func := "loop.example/g00062/laws.FnPhases", spec := "fnPhases", apart := false, narrowed := true }
def FnPhasesUptoSaid : Prop := fnPhasesUptoRow.holds Try.pinned (OpenSpec.upto fnPhasesSpec)

/-- 'laws.FnExactSequence', WHERE WHAT IT READS IS OF BULK AT MOST 1048576: true; the input reads as it did. -/
def fnExactSequenceUptoRow : OpenClaim := { program := "ytjahjhddokaopaa", sum := "cbe1b1f00121efb97c78416ff73d5d2bb4d54071c9784577a39313e724ce3422", func := "loop.example/g00062/laws.FnExactSequence", spec := "fnExactSequence", apart := false, narrowed := true }
def FnExactSequenceUptoSaid : Prop := fnExactSequenceUptoRow.holds Try.pinned (OpenSpec.upto fnExactSequenceSpec)

/-- 'laws.FnExactUnsequence', WHERE WHAT IT READS IS OF BULK AT MOST 1048576: true; the input reads as it did. -/
def fnExactUnsequenceUptoRow : OpenClaim := { program := "ytjahjhddokaopaa", sum := "cbe1b1f00121efb97c78416ff73d5d2bb4d54071c9784577a39313e724ce3422", func := "loop.example/g00062/laws.FnExactUnsequence", spec := "fnExactUnsequence", apart := false, narrowed := true }
def FnExactUnsequenceUptoSaid : Prop := fnExactUnsequenceUptoRow.holds Try.pinned (OpenSpec.upto fnExactUnsequenceSpec)

end Rows
end Go.Proofs.Ytjahjhddokaopaa
