/-
  No cell of these rows narrows 'for every input' (looked for: loops, veiled, ifaces, maps, wideKeys, modest, calm, conditions, laid).
  DERIVED. THE GIVEN ROWS OF THIS SEAT. 3 by the template 'for every input the law returns true; each argument reads behind the call as it read before'; 0 by the template 'total and deterministic' (their statements: YtfinbbllgdmaeaaTotals.lean).
  GIVEN WITH THE SEED: the statements are not yours to turn. If you find one false, say at which input.
  Laid BY PROGRAM, IN A SANDBOX (cutbox-rows.mjs): the forced cells as the released guide's own fill.sh prints them over the translation 546a0356526e7e91… (all of the seat's roots in one cut). By AI agents, Wed Nov 11 2026. No macro, syntax, notation, axiom, sorry.
-/
import Derived.Test.YtfinbbllgdmaeaaChecked
import GoSem.Claim
import GoSem.ClaimJoined
import GoSem.ClaimMapViews
import Derived.JoinedTies
import Derived.KernelRfl
namespace Go.Proofs.Ytfinbbllgdmaeaa
/- THE CELL 'sum', in the pinned program and in every row, IS THE sha256 OF THE DUMP (.gsa) THAT YtfinbbllgdmaeaaProg.lean LOADS. Nothing in Lean hashes anything: it is a label: what it is worth is what the hold of that sum in a sandbox is worth. -/
noncomputable def Try.pinned : Pinned := { name := "ytfinbbllgdmaeaa", sum := "546a0356526e7e91c3fabc5e6fdc2f624cde9cfc5042b17bd3d5a93f320f06db", checked := Try.checked }
namespace Rows
def none {H : Type} : Left H := { results := [], args := [] }

/-- 'laws.FnExactLatchStep': WHATEVER THE INPUT: true; the input reads as it did. -/
def fnExactLatchStepSpec : ChangeSpec := { name := "fnExactLatchStep", fn := fun _ => fun
  | [d1, d2, d3, d4] => { results := [.lit (.bool true)], args := [d1, d2, d3, d4] }
  | _ => none }
def fnExactLatchStepRow : OpenClaim := { program := "ytfinbbllgdmaeaa", sum := "546a0356526e7e91c3fabc5e6fdc2f624cde9cfc5042b17bd3d5a93f320f06db", func := "loop.example/g00062/laws.FnExactLatchStep", spec := "fnExactLatchStep", apart := false }
def FnExactLatchStepSaid : Prop := fnExactLatchStepRow.holds Try.pinned (OpenSpec.ofChange fnExactLatchStepSpec)

/-- ITS FALSE NEIGHBOUR: 'it returns false'. Refute it at one input. -/
def fnExactLatchStepWrong : ChangeSpec := { name := "fnExactLatchStep", fn := fun _ => fun
  | [d1, d2, d3, d4] => { results := [.lit (.bool false)], args := [d1, d2, d3, d4] }
  | _ => none }
def FnExactLatchStepWrongFalsely : Prop := fnExactLatchStepRow.holds Try.pinned (OpenSpec.ofChange fnExactLatchStepWrong)

/-- 'laws.FnExactDriveStep': WHATEVER THE INPUT: true; the input reads as it did. -/
def fnExactDriveStepSpec : ChangeSpec := { name := "fnExactDriveStep", fn := fun _ => fun
  | [d1, d2, d3, d4] => { results := [.lit (.bool true)], args := [d1, d2, d3, d4] }
  | _ => none }
def fnExactDriveStepRow : OpenClaim := { program := "ytfinbbllgdmaeaa", sum := "546a0356526e7e91c3fabc5e6fdc2f624cde9cfc5042b17bd3d5a93f320f06db", func := "loop.example/g00062/laws.FnExactDriveStep", spec := "fnExactDriveStep", apart := false }
def FnExactDriveStepSaid : Prop := fnExactDriveStepRow.holds Try.pinned (OpenSpec.ofChange fnExactDriveStepSpec)

/-- ITS FALSE NEIGHBOUR: 'it returns false'. Refute it at one input. -/
def fnExactDriveStepWrong : ChangeSpec := { name := "fnExactDriveStep", fn := fun _ => fun
  | [d1, d2, d3, d4] => { results := [.lit (.bool false)], args := [d1, d2, d3, d4] }
  | _ => none }
def FnExactDriveStepWrongFalsely : Prop := fnExactDriveStepRow.holds Try.pinned (OpenSpec.ofChange fnExactDriveStepWrong)

/-- 'laws.FnLatchFirst': WHATEVER THE INPUT: true; the input reads as it did. -/
def fnLatchFirstSpec : ChangeSpec := { name := "fnLatchFirst", fn := fun _ => fun
  | [d] => { results := [.lit (.bool true)], args := [d] }
  | _ => none }
def fnLatchFirstRow : OpenClaim := { program := "ytfinbbllgdmaeaa", sum := "546a0356526e7e91c3fabc5e6fdc2f624cde9cfc5042b17bd3d5a93f320f06db", func := "loop.example/g00062/laws.FnLatchFirst", spec := "fnLatchFirst", apart := false }
def FnLatchFirstSaid : Prop := fnLatchFirstRow.holds Try.pinned (OpenSpec.ofChange fnLatchFirstSpec)

/-- ITS FALSE NEIGHBOUR: 'it returns false'. Refute it at one input. -/
def fnLatchFirstWrong : ChangeSpec := { name := "fnLatchFirst", fn := fun _ => fun
  | [d] => { results := [.lit (.bool false)], args := [d] }
  | _ => none }
def FnLatchFirstWrongFalsely : Prop := fnLatchFirstRow.holds Try.pinned (OpenSpec.ofChange fnLatchFirstWrong)

/- THE SECOND FORM. 'bulk': how many values and letters a reading holds, each counted each time it is reached (what is shared counts as often as it is met; a slice's spare places count too). A statement '..UptoSaid' is the law's where the arguments, and the package variables that the reading takes, are together of bulk at most 1048576: NARROWER than '..Said'. Prove '..Said' where nothing that the law and all that it calls make is longer than what came in: it says more and counts as full. Else prove '..UptoSaid'. A law counts once. -/
mutual
def uptoBulk {H : Type} : DataW H → Nat
  | .lit (.string bytes) => bytes.length + 1
  | .lit _ => 1
  | .nil => 1
  | .ptr d => uptoBulk d + 1
  | .slice elems spare => uptoBulkAll elems + uptoBulkAll spare + 1
  | .agg parts => uptoBulkAll parts + 1
  | .iface _ d => uptoBulk d + 1
  | .map entries => uptoBulkEntries entries + 1
  | .held _ => 1
def uptoBulkAll {H : Type} : List (DataW H) → Nat
  | [] => 0
  | d :: r => uptoBulk d + uptoBulkAll r
def uptoBulkEntries {H : Type} : List (Lit × DataW H) → Nat
  | [] => 0
  | x :: r => uptoBulkEntry x + uptoBulkEntries r
def uptoBulkEntry {H : Type} : Lit × DataW H → Nat
  | (.string bytes, d) => bytes.length + uptoBulk d + 1
  | (_, d) => uptoBulk d + 1
 end
def uptoSmall : (H : Type) → List (DataW H) → Bool := fun _ ds => decide (uptoBulkAll ds ≤ 1048576)
def OpenSpec.upto (s : _root_.Go.ChangeSpec) : _root_.Go.OpenSpec := { _root_.Go.OpenSpec.ofChange s with cond := some uptoSmall }

/-- 'laws.FnExactLatchStep', WHERE WHAT IT READS IS OF BULK AT MOST 1048576: true; the input reads as it did. -/
def fnExactLatchStepUptoRow : OpenClaim := { program := "ytfinbbllgdmaeaa", sum := "546a0356526e7e91c3fabc5e6fdc2f624cde9cfc5042b17bd3d5a93f320f06db", func := "loop.example/g00062/laws.FnExactLatchStep", spec := "fnExactLatchStep", apart := false, narrowed := true }
def FnExactLatchStepUptoSaid : Prop := fnExactLatchStepUptoRow.holds Try.pinned (OpenSpec.upto fnExactLatchStepSpec)

/-- 'laws.FnExactDriveStep', WHERE WHAT IT READS IS OF BULK AT MOST 1048576: true; the input reads as it did. -/
def fnExactDriveStepUptoRow : OpenClaim := { program := "ytfinbbllgdmaeaa", sum := "546a0356526e7e91c3fabc5e6fdc2f624cde9cfc5042b17bd3d5a93f320f06db", func := "loop.example/g00062/laws.FnExactDriveStep", spec := "fnExactDriveStep", apart := false, narrowed := true }
def FnExactDriveStepUptoSaid : Prop := fnExactDriveStepUptoRow.holds Try.pinned (OpenSpec.upto fnExactDriveStepSpec)

/-- 'laws.FnLatchFirst', WHERE WHAT IT READS IS OF BULK AT MOST 1048576: true; the input reads as it did. -/
def fnLatchFirstUptoRow : OpenClaim := { program := "ytfinbbllgdmaeaa", sum := "546a0356526e7e91c3fabc5e6fdc2f624cde9cfc5042b17bd3d5a93f320f06db", func := "loop.example/g00062/laws.FnLatchFirst", spec := "fnLatchFirst", apart := false, narrowed := true }
def FnLatchFirstUptoSaid : Prop := fnLatchFirstUptoRow.holds Try.pinned (OpenSpec.upto fnLatchFirstSpec)

end Rows
end Go.Proofs.Ytfinbbllgdmaeaa
