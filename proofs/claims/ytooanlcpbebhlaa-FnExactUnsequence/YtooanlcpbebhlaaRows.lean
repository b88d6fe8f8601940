/-
  No cell of these rows narrows 'for every input' (looked for: loops, veiled, ifaces, maps, wideKeys, modest, calm, conditions, laid).
  DERIVED. THE GIVEN ROWS OF THIS SEAT. 6 by the template 'for every input the law returns true; each argument reads behind the call as it read before'; 0 by the template 'total and deterministic' (their statements: YtooanlcpbebhlaaTotals.lean).
  GIVEN WITH THE SEED: the statements are not yours to turn. If you find one false, say at which input.
  Laid BY PROGRAM, IN A SANDBOX (cutbox-rows.mjs): the forced cells as the released guide's own fill.sh prints them over the translation 3335fd67ebab40a8… (all of the seat's roots in one cut). By AI agents, Wed Nov 11 2026. No macro, syntax, notation, axiom, sorry.
-/
import Derived.Test.YtooanlcpbebhlaaChecked
import GoSem.Claim
import GoSem.ClaimJoined
import GoSem.ClaimMapViews
import Derived.JoinedTies
import Derived.KernelRfl
namespace Go.Proofs.Ytooanlcpbebhlaa
/- THE CELL 'sum', in the pinned program and in every row, IS THE sha256 OF THE DUMP (.gsa) THAT YtooanlcpbebhlaaProg.lean LOADS. Nothing in Lean hashes anything: it is a label: what it is worth is what the hold of that sum in a sandbox is worth. -/
noncomputable def Try.pinned : Pinned := { name := "ytooanlcpbebhlaa", sum := "3335fd67ebab40a8e9df62295c8d82cf8d1e3175c3f811e6b926726527a34984", checked := Try.checked }
namespace Rows
def none {H : Type} : Left H := { results := [], args := [] }

/-- 'laws.FnExactNorm': WHATEVER THE INPUT: true; the input reads as it did. -/
def fnExactNormSpec : ChangeSpec := { name := "fnExactNorm", fn := fun _ => fun
  | [d] => { results := [.lit (.bool true)], args := [d] }
  | _ => none }
def fnExactNormRow : OpenClaim := { program := "ytooanlcpbebhlaa", sum := "3335fd67ebab40a8e9df62295c8d82cf8d1e3175c3f811e6b926726527a34984", func := "loop.example/g00062/laws.FnExactNorm", spec := "fnExactNorm", apart := false }
def FnExactNormSaid : Prop := fnExactNormRow.holds Try.pinned (OpenSpec.ofChange fnExactNormSpec)

/-- ITS FALSE NEIGHBOUR: 'it returns false'. Refute it at one input. -/
def fnExactNormWrong : ChangeSpec := { name := "fnExactNorm", fn := fun _ => fun
  | [d] => { results := [.lit (.bool false)], args := [d] }
  | _ => none }
def FnExactNormWrongFalsely : Prop := fnExactNormRow.holds Try.pinned (OpenSpec.ofChange fnExactNormWrong)

/-- 'laws.FnExactPower': WHATEVER THE INPUT: true; the input reads as it did. -/
def fnExactPowerSpec : ChangeSpec := { name := "fnExactPower", fn := fun _ => fun
  | [d1, d2] => { results := [.lit (.bool true)], args := [d1, d2] }
  | _ => none }
def fnExactPowerRow : OpenClaim := { program := "ytooanlcpbebhlaa", sum := "3335fd67ebab40a8e9df62295c8d82cf8d1e3175c3f811e6b926726527a34984", func := "loop.example/g00062/laws.FnExactPower", spec := "fnExactPower", apart := false }
def FnExactPowerSaid : Prop := fnExactPowerRow.holds Try.pinned (OpenSpec.ofChange fnExactPowerSpec)

/-- ITS FALSE NEIGHBOUR: 'it returns false'. Refute it at one input. -/
def fnExactPowerWrong : ChangeSpec := { name := "fnExactPower", fn := fun _ => fun
  | [d1, d2] => { results := [.lit (.bool false)], args := [d1, d2] }
  | _ => none }
def FnExactPowerWrongFalsely : Prop := fnExactPowerRow.holds Try.pinned (OpenSpec.ofChange fnExactPowerWrong)

/-- 'laws.FnExactCapable': WHATEVER THE INPUT: true; the input reads as it did. -/
def fnExactCapableSpec : ChangeSpec := { name := "fnExactCapable", fn := fun _ => fun
  | [d1, d2] => { results := [.lit (.bool true)], args := [d1, d2] }
  | _ => none }
def fnExactCapableRow : OpenClaim := { program := "ytooanlcpbebhlaa", sum := "3335fd67ebab40a8e9df62295c8d82cf8d1e3175c3f811e6b926726527a34984", func := "loop.example/g00062/laws.FnExactCapable", spec := "fnExactCapable", apart := false }
def FnExactCapableSaid : Prop := fnExactCapableRow.holds Try.pinned (OpenSpec.ofChange fnExactCapableSpec)

/-- ITS FALSE NEIGHBOUR: 'it returns false'. Refute it at one input. -/
def fnExactCapableWrong : ChangeSpec := { name := "fnExactCapable", fn := fun _ => fun
  | [d1, d2] => { results := [.lit (.bool false)], args := [d1, d2] }
  | _ => none }
def FnExactCapableWrongFalsely : Prop := fnExactCapableRow.holds Try.pinned (OpenSpec.ofChange fnExactCapableWrong)

/-- 'laws.FnExactCloses': WHATEVER THE INPUT: true; the input reads as it did. -/
def fnExactClosesSpec : ChangeSpec := { name := "fnExactCloses", fn := fun _ => fun
  | [d1, d2, d3, d4] => { results := [.lit (.bool true)], args := [d1, d2, d3, d4] }
  | _ => none }
def fnExactClosesRow : OpenClaim := { program := "ytooanlcpbebhlaa", sum := "3335fd67ebab40a8e9df62295c8d82cf8d1e3175c3f811e6b926726527a34984", func := "loop.example/g00062/laws.FnExactCloses", spec := "fnExactCloses", inPlace := ["math.Float64bits", "math.Float64frombits"], apart := false }
def FnExactClosesSaid : Prop := fnExactClosesRow.holds Try.pinned (OpenSpec.ofChange fnExactClosesSpec)

/-- ITS FALSE NEIGHBOUR: 'it returns false'. Refute it at one input. -/
def fnExactClosesWrong : ChangeSpec := { name := "fnExactCloses", fn := fun _ => fun
  | [d1, d2, d3, d4] => { results := [.lit (.bool false)], args := [d1, d2, d3, d4] }
  | _ => none }
def FnExactClosesWrongFalsely : Prop := fnExactClosesRow.holds Try.pinned (OpenSpec.ofChange fnExactClosesWrong)

/-- 'laws.FnExactSequence': WHATEVER THE INPUT: true; the input reads as it did. -/
def fnExactSequenceSpec : ChangeSpec := { name := "fnExactSequence", fn := fun _ => fun
  | [d1, d2, d3] => { results := [.lit (.bool true)], args := [d1, d2, d3] }
  | _ => none }
def fnExactSequenceRow : OpenClaim := { program := "ytooanlcpbebhlaa", sum := "3335fd67ebab40a8e9df62295c8d82cf8d1e3175c3f811e6b926726527a34984", func := "loop.example/g00062/laws.FnExactSequence", spec := "fnExactSequence", apart := false }
def FnExactSequenceSaid : Prop := fnExactSequenceRow.holds Try.pinned (OpenSpec.ofChange fnExactSequenceSpec)

/-- ITS FALSE NEIGHBOUR: 'it returns false'. Refute it at one input. -/
def fnExactSequenceWrong : ChangeSpec := { name := "fnExactSequence", fn := fun _ => fun
  | [d1, d2, d3] => { results := [.lit (.bool false)], args := [d1, d2, d3] }
  | _ => none }
def FnExactSequenceWrongFalsely : Prop := fnExactSequenceRow.holds Try.pinned (OpenSpec.ofChange fnExactSequenceWrong)

/-- 'laws.FnExactUnsequence': WHATEVER THE INPUT: true; the input reads as it did. -/
def fnExactUnsequenceSpec : ChangeSpec := { name := "fnExactUnsequence", fn := fun _ => fun
  | [d1, d2, d3] => { results := [.lit (.bool true)], args := [d1, d2, d3] }
  | _ => none }
def fnExactUnsequenceRow : OpenClaim := { program := "ytooanlcpbebhlaa", sum := "3335fd67ebab40a8e9df62295c8d82cf8d1e3175c3f811e6b926726527a34984", func := "loop.example/g00062/laws.FnExactUnsequence", spec := "fnExactUnsequence", apart := false }
def FnExactUnsequenceSaid : Prop := fnExactUnsequenceRow.holds Try.pinned (OpenSpec.ofChange fnExactUnsequenceSpec)

/-- ITS FALSE NEIGHBOUR: 'it returns false'. Refute it at one input. -/
def fnExactUnsequenceWrong : ChangeSpec := { name := "fnExactUnsequence", fn := fun _ => fun
  | [d1, d2, d3] => { results := [.lit (.bool false)], args := [d1, d2, d3] }
  | _ => none }
def FnExactUnsequenceWrongFalsely : Prop := fnExactUnsequenceRow.holds Try.pinned (OpenSpec.ofChange fnExactUnsequenceWrong)

/- THE SECOND FORM. 'bulk': how many values and letters a reading holds, each counted each time it is reached (what is shared counts as often as it is met; a slice's spare places count too). A statement '..UptoSaid' is the law's where the arguments, and the package variables that the reading takes, are together of bulk at most 1048576: NARROWER than '..Said'. Prove '..Said' where nothing that the law and all that it calls make is longer than what came in: it says more and counts as full. Else prove '..UptoSaid'. A law counts once. -/
mutual
def uptoBulk {H : Type} : DataW H → Nat
  | .lit (.string bytes) => bytes.length + 1
  | .lit _ => 1
  | .nil => 1
  | .ptr d => uptoBulk d + 1
  | .slice elems spare => uptoBulkAll elems + uptoBulkAll spare + 1
  | .agg parts => uptoBulkAll parts + 1
  | .iface _ d => uptoBulk d + 1
  | .map entries => uptoBulkEntries entries + 1
  | .held _ => 1
def uptoBulkAll {H : Type} : List (DataW H) → Nat
  | [] => 0
  | d :: r => uptoBulk d + uptoBulkAll r
def uptoBulkEntries {H : Type} : List (Lit × DataW H) → Nat
  | [] => 0
  | x :: r => uptoBulkEntry x + uptoBulkEntries r
def uptoBulkEntry {H : Type} : Lit × DataW H → Nat
  | (.string bytes, d) => bytes.length + uptoBulk d + 1
  | (_, d) => uptoBulk d + 1
 end
def uptoSmall : (H : Type) → List (DataW H) → Bool := fun _ ds => decide (uptoBulkAll ds ≤ 1048576)
def OpenSpec.upto (s : _root_.Go.ChangeSpec) : _root_.Go.OpenSpec := { _root_.Go.OpenSpec.ofChange s with cond := some uptoSmall }

/-- 'laws.FnExactNorm', WHERE WHAT IT READS IS OF BULK AT MOST 1048576: true; the input reads as it did. -/
def fnExactNormUptoRow : OpenClaim := { program := "ytooanlcpbebhlaa", sum := "3335fd67ebab40a8e9df62295c8d82cf8d1e3175c3f811e6b926726527a34984", func := "loop.example/g00062/laws.FnExactNorm", spec := "fnExactNorm", apart := false, narrowed := true }
def FnExactNormUptoSaid : Prop := fnExactNormUptoRow.holds Try.pinned (OpenSpec.upto fnExactNormSpec)

/-- 'laws.FnExactPower', WHERE WHAT IT READS IS OF BULK AT MOST 1048576: true; the input reads as it did. -/
def fnExactPowerUptoRow : OpenClaim := { program := "ytooanlcpbebhlaa", sum := "3335fd67ebab40a8e9df62295c8d82cf8d1e3175c3f811e6b926726527a34984", func := "loop.example/g00062/laws.FnExactPower", spec := "fnExactPower", apart := false, narrowed := true }
def FnExactPowerUptoSaid : Prop := fnExactPowerUptoRow.holds Try.pinned (OpenSpec.upto fnExactPowerSpec)

/-- 'laws.FnExactCapable', WHERE WHAT IT READS IS OF BULK AT MOST 1048576: true; the input reads as it did. -/
def fnExactCapableUptoRow : OpenClaim := { program := "ytooanlcpbebhlaa", sum := "3335fd67ebab40a8e9df62295c8d82cf8d1e3175c3f811e6b926726527a34984", func := "loop.example/g00062/laws.FnExactCapable", spec := "fnExactCapable", apart := false, narrowed := true }
def FnExactCapableUptoSaid : Prop := fnExactCapableUptoRow.holds Try.pinned (OpenSpec.upto fnExactCapableSpec)

/-- 'laws.FnExactCloses', WHERE WHAT IT READS IS OF BULK AT MOST 1048576: true; the input reads as it did. -/
def fnExactClosesUptoRow : OpenClaim := { program := "ytooanlcpbebhlaa", sum := "3335fd67ebab40a8e9df62295c8d82cf8d1e3175c3f811e6b926726527a34984", func := "loop.example/g00062/laws.FnExactCloses", spec := "fnExactCloses", inPlace := ["math.Float64bits", "math.Float64frombits"], apart := false, narrowed := true }
def FnExactClosesUptoSaid : Prop := fnExactClosesUptoRow.holds Try.pinned (OpenSpec.upto fnExactClosesSpec)

/-- 'laws.FnExactSequence', WHERE WHAT IT READS IS OF BULK AT MOST 1048576: true; the input reads as it did. -/
def fnExactSequenceUptoRow : OpenClaim := { program := "ytooanlcpbebhlaa", sum := "3335fd67ebab40a8e9df62295c8d82cf8d1e3175c3f811e6b926726527a34984", func := "loop.example/g00062/laws.FnExactSequence", spec := "fnExactSequence", apart := false, narrowed := true }
def FnExactSequenceUptoSaid : Prop := fnExactSequenceUptoRow.holds Try.pinned (OpenSpec.upto fnExactSequenceSpec)

/-- 'laws.FnExactUnsequence', WHERE WHAT IT READS IS OF BULK AT MOST 1048576: true; the input reads as it did. -/
def fnExactUnsequenceUptoRow : OpenClaim := { program := "ytooanlcpbebhlaa", sum := "3335fd67ebab40a8e9df62295c8d82cf8d1e3175c3f811e6b926726527a34984", func := "loop.example/g00062/laws.FnExactUnsequence", spec := "fnExactUnsequence", apart := false, narrowed := true }
def FnExactUnsequenceUptoSaid : Prop := fnExactUnsequenceUptoRow.holds Try.pinned (OpenSpec.upto fnExactUnsequenceSpec)

end Rows
end Go.Proofs.Ytooanlcpbebhlaa
