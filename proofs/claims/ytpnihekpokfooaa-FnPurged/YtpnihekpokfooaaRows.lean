/-
  No cell of these rows narrows 'for every input' (looked for: loops, veiled, ifaces, maps, wideKeys, modest, calm, conditions, laid).
  DERIVED. THE GIVEN ROWS OF THIS SEAT. 6 by the template 'for every input the law returns true; each argument reads behind the call as it read before'; 0 by the template 'total and deterministic' (their statements: YtpnihekpokfooaaTotals.lean).
  GIVEN WITH THE SEED: the statements are not yours to turn. If you find one false, say at which input.
  Laid BY PROGRAM, IN A SANDBOX (cutbox-rows.mjs): the forced cells as the released guide's own fill.sh prints them over the translation 849b6e742236b85c… (all of the seat's roots in one cut). By AI agents, Wed Nov 11 2026. No macro, syntax, notation, axiom, sorry.
-/
import Derived.Test.YtpnihekpokfooaaChecked
import GoSem.Claim
import GoSem.ClaimJoined
import GoSem.ClaimMapViews
import Derived.JoinedTies
import Derived.KernelRfl
namespace Go.Proofs.Ytpnihekpokfooaa
/- THE CELL 'sum', in the pinned program and in every row, IS THE sha256 OF THE DUMP (.gsa) THAT YtpnihekpokfooaaProg.lean LOADS. Nothing in Lean hashes anything: it is a label: what it is worth is what the hold of that sum in a sandbox is worth. -/
noncomputable def Try.pinned : Pinned := { name := "ytpnihekpokfooaa", sum := "849b6e742236b85c5cda4b9bfdfbe4e5939c86a874608b653a8abaa92412baf5", checked := Try.checked }
namespace Rows
def none {H : Type} : Left H := { results := [], args := [] }

/-- 'laws.FnExactBurnerOk': WHATEVER THE INPUT: true; the input reads as it did. -/
def fnExactBurnerOkSpec : ChangeSpec := { name := "fnExactBurnerOk", fn := fun _ => fun
  | [d] => { results := [.lit (.bool true)], args := [d] }
  | _ => none }
def fnExactBurnerOkRow : OpenClaim := { program := "ytpnihekpokfooaa", sum := "849b6e742236b85c5cda4b9bfdfbe4e5939c86a874608b653a8abaa92412baf5", func := "loop.example/g00062/laws.FnExactBurnerOk", spec := "fnExactBurnerOk", apart := false }
def FnExactBurnerOkSaid : Prop := fnExactBurnerOkRow.holds Try.pinned (OpenSpec.ofChange fnExactBurnerOkSpec)

/-- ITS FALSE NEIGHBOUR: 'it returns false'. Refute it at one input. -/
def fnExactBurnerOkWrong : ChangeSpec := { name := "fnExactBurnerOk", fn := fun _ => fun
  | [d] => { results := [.lit (.bool false)], args := [d] }
  | _ => none }
def FnExactBurnerOkWrongFalsely : Prop := fnExactBurnerOkRow.holds Try.pinned (OpenSpec.ofChange fnExactBurnerOkWrong)

/-- 'laws.FnExactBurnerStep': WHATEVER THE INPUT: true; the input reads as it did. -/
def fnExactBurnerStepSpec : ChangeSpec := { name := "fnExactBurnerStep", fn := fun _ => fun
  | [d1, d2] => { results := [.lit (.bool true)], args := [d1, d2] }
  | _ => none }
def fnExactBurnerStepRow : OpenClaim := { program := "ytpnihekpokfooaa", sum := "849b6e742236b85c5cda4b9bfdfbe4e5939c86a874608b653a8abaa92412baf5", func := "loop.example/g00062/laws.FnExactBurnerStep", spec := "fnExactBurnerStep", unfollowed := true, recurses := true, apart := false }
def FnExactBurnerStepSaid : Prop := fnExactBurnerStepRow.holds Try.pinned (OpenSpec.ofChange fnExactBurnerStepSpec)

/-- ITS FALSE NEIGHBOUR: 'it returns false'. Refute it at one input. -/
def fnExactBurnerStepWrong : ChangeSpec := { name := "fnExactBurnerStep", fn := fun _ => fun
  | [d1, d2] => { results := [.lit (.bool false)], args := [d1, d2] }
  | _ => none }
def FnExactBurnerStepWrongFalsely : Prop := fnExactBurnerStepRow.holds Try.pinned (OpenSpec.ofChange fnExactBurnerStepWrong)

/-- 'laws.FnExactBurnerRun': WHATEVER THE INPUT: true; the input reads as it did. -/
def fnExactBurnerRunSpec : ChangeSpec := { name := "fnExactBurnerRun", fn := fun _ => fun
  | [d1, d2] => { results := [.lit (.bool true)], args := [d1, d2] }
  | _ => none }
def fnExactBurnerRunRow : OpenClaim := { program := "ytpnihekpokfooaa", sum := "849b6e742236b85c5cda4b9bfdfbe4e5939c86a874608b653a8abaa92412baf5", func := "loop.example/g00062/laws.FnExactBurnerRun", spec := "fnExactBurnerRun", unfollowed := true, recurses := true, apart := false }
def FnExactBurnerRunSaid : Prop := fnExactBurnerRunRow.holds Try.pinned (OpenSpec.ofChange fnExactBurnerRunSpec)

/-- ITS FALSE NEIGHBOUR: 'it returns false'. Refute it at one input. -/
def fnExactBurnerRunWrong : ChangeSpec := { name := "fnExactBurnerRun", fn := fun _ => fun
  | [d1, d2] => { results := [.lit (.bool false)], args := [d1, d2] }
  | _ => none }
def FnExactBurnerRunWrongFalsely : Prop := fnExactBurnerRunRow.holds Try.pinned (OpenSpec.ofChange fnExactBurnerRunWrong)

/-- 'laws.FnExactLawful': WHATEVER THE INPUT: true; the input reads as it did. -/
def fnExactLawfulSpec : ChangeSpec := { name := "fnExactLawful", fn := fun _ => fun
  | [d] => { results := [.lit (.bool true)], args := [d] }
  | _ => none }
def fnExactLawfulRow : OpenClaim := { program := "ytpnihekpokfooaa", sum := "849b6e742236b85c5cda4b9bfdfbe4e5939c86a874608b653a8abaa92412baf5", func := "loop.example/g00062/laws.FnExactLawful", spec := "fnExactLawful", unfollowed := true, recurses := true, apart := false }
def FnExactLawfulSaid : Prop := fnExactLawfulRow.holds Try.pinned (OpenSpec.ofChange fnExactLawfulSpec)

/-- ITS FALSE NEIGHBOUR: 'it returns false'. Refute it at one input. -/
def fnExactLawfulWrong : ChangeSpec := { name := "fnExactLawful", fn := fun _ => fun
  | [d] => { results := [.lit (.bool false)], args := [d] }
  | _ => none }
def FnExactLawfulWrongFalsely : Prop := fnExactLawfulRow.holds Try.pinned (OpenSpec.ofChange fnExactLawfulWrong)

/-- 'laws.FnTriesEnd': WHATEVER THE INPUT: true; the input reads as it did. -/
def fnTriesEndSpec : ChangeSpec := { name := "fnTriesEnd", fn := fun _ => fun
  | [d] => { results := [.lit (.bool true)], args := [d] }
  | _ => none }
def fnTriesEndRow : OpenClaim := { program := "ytpnihekpokfooaa", sum := "849b6e742236b85c5cda4b9bfdfbe4e5939c86a874608b653a8abaa92412baf5", func := "loop.example/g00062/laws.FnTriesEnd", spec := "fnTriesEnd", unfollowed := true, recurses := true, apart := false }
def FnTriesEndSaid : Prop := fnTriesEndRow.holds Try.pinned (OpenSpec.ofChange fnTriesEndSpec)

/-- ITS FALSE NEIGHBOUR: 'it returns false'. Refute it at one input. -/
def fnTriesEndWrong : ChangeSpec := { name := "fnTriesEnd", fn := fun _ => fun
  | [d] => { results := [.lit (.bool false)], args := [d] }
  | _ => none }
def FnTriesEndWrongFalsely : Prop := fnTriesEndRow.holds Try.pinned (OpenSpec.ofChange fnTriesEndWrong)

/-- 'laws.FnPurged': WHATEVER THE INPUT: true; the input reads as it did. -/
def fnPurgedSpec : ChangeSpec := { name := "fnPurged", fn := fun _ => fun
  | [d] => { results := [.lit (.bool true)], args := [d] }
  | _ => none }
def fnPurgedRow : OpenClaim := { program := "ytpnihekpokfooaa", sum := "849b6e742236b85c5cda4b9bfdfbe4e5939c86a874608b653a8abaa92412baf5", func := "loop.example/g00062/laws.FnPurged", spec := "fnPurged", unfollowed := true, recurses := true, apart := false }
def FnPurgedSaid : Prop := fnPurgedRow.holds Try.pinned (OpenSpec.ofChange fnPurgedSpec)

/-- ITS FALSE NEIGHBOUR: 'it returns false'. Refute it at one input. -/
def fnPurgedWrong : ChangeSpec := { name := "fnPurged", fn := fun _ => fun
  | [d] => { results := [.lit (.bool false)], args := [d] }
  | _ => none }
def FnPurgedWrongFalsely : Prop := fnPurgedRow.holds Try.pinned (OpenSpec.ofChange fnPurgedWrong)

/- THE SECOND FORM. 'bulk': how many values and letters a reading holds, each counted each time it is reached (what is shared counts as often as it is met; a slice's spare places count too). A statement '..UptoSaid' is the law's where the arguments, and the package variables that the reading takes, are together of bulk at most 1048576: NARROWER than '..Said'. Prove '..Said' where nothing that the law and all that it calls make is longer than what came in: it says more and counts as full. Else prove '..UptoSaid'. A law counts once. -/
mutual
def uptoBulk {H : Type} : DataW H → Nat
  | .lit (.string bytes) => bytes.length + 1
  | .lit _ => 1
  | .nil => 1
  | .ptr d => uptoBulk d + 1
  | .slice elems spare => uptoBulkAll elems + uptoBulkAll spare + 1
  | .agg parts => uptoBulkAll parts + 1
  | .iface _ d => uptoBulk d + 1
  | .map entries => uptoBulkEntries entries + 1
  | .held _ => 1
def uptoBulkAll {H : Type} : List (DataW H) → Nat
  | [] => 0
  | d :: r => uptoBulk d + uptoBulkAll r
def uptoBulkEntries {H : Type} : List (Lit × DataW H) → Nat
  | [] => 0
  | x :: r => uptoBulkEntry x + uptoBulkEntries r
def uptoBulkEntry {H : Type} : Lit × DataW H → Nat
  | (.string bytes, d) => bytes.length + uptoBulk d + 1
  | (_, d) => uptoBulk d + 1
 end
def uptoSmall : (H : Type) → List (DataW H) → Bool := fun _ ds => decide (uptoBulkAll ds ≤ 1048576)
def OpenSpec.upto (s : _root_.Go.ChangeSpec) : _root_.Go.OpenSpec := { _root_.Go.OpenSpec.ofChange s with cond := some uptoSmall }

/-- 'laws.FnExactBurnerOk', WHERE WHAT IT READS IS OF BULK AT MOST 1048576: true; the input reads as it did. -/
def fnExactBurnerOkUptoRow : OpenClaim := { program := "ytpnihekpokfooaa", sum := "849b6e742236b85c5cda4b9bfdfbe4e5939c86a874608b653a8abaa92412baf5", func := "loop.example/g00062/laws.FnExactBurnerOk", spec := "fnExactBurnerOk", apart := false, narrowed := true }
def FnExactBurnerOkUptoSaid : Prop := fnExactBurnerOkUptoRow.holds Try.pinned (OpenSpec.upto fnExactBurnerOkSpec)

/-- 'laws.FnExactBurnerStep', WHERE WHAT IT READS IS OF BULK AT MOST 1048576: true; the input reads as it did. -/
def fnExactBurnerStepUptoRow : OpenClaim := { program := "ytpnihekpokfooaa", sum := "849b6e742236b85c5cda4b9bfdfbe4e5939c86a874608b653a8abaa92412baf5", func := "loop.example/g00062/laws.FnExactBurnerStep", spec := "fnExactBurnerStep", unfollowed := true, recurses := true, apart := false, narrowed := true }
def FnExactBurnerStepUptoSaid : Prop := fnExactBurnerStepUptoRow.holds Try.pinned (OpenSpec.upto fnExactBurnerStepSpec)

/-- 'laws.FnExactBurnerRun', WHERE WHAT IT READS IS OF BULK AT MOST 1048576: true; the input reads as it did. -/
def fnExactBurnerRunUptoRow : OpenClaim := { program := "ytpnihekpokfooaa", sum := "849b6e742236b85c5cda4b9bfdfbe4e5939c86a874608b653a8abaa92412baf5", func := "loop.example/g00062/laws.FnExactBurnerRun", spec := "fnExactBurnerRun", unfollowed := true, recurses := true, apart := false, narrowed := true }
def FnExactBurnerRunUptoSaid : Prop := fnExactBurnerRunUptoRow.holds Try.pinned (OpenSpec.upto fnExactBurnerRunSpec)

/-- 'laws.FnExactLawful', WHERE WHAT IT READS IS OF BULK AT MOST 1048576: true; the input reads as it did. -/
def fnExactLawfulUptoRow : OpenClaim := { program := "ytpnihekpokfooaa", sum := "849b6e742236b85c5cda4b9bfdfbe4e5939c86a874608b653a8abaa92412baf5", func := "loop.example/g00062/laws.FnExactLawful", spec := "fnExactLawful", unfollowed := true, recurses := true, apart := false, narrowed := true }
def FnExactLawfulUptoSaid : Prop := fnExactLawfulUptoRow.holds Try.pinned (OpenSpec.upto fnExactLawfulSpec)

/-- 'laws.FnTriesEnd', WHERE WHAT IT READS IS OF BULK AT MOST 1048576: true; the input reads as it did. -/
def fnTriesEndUptoRow : OpenClaim := { program := "ytpnihekpokfooaa", sum := "849b6e742236b85c5cda4b9bfdfbe4e5939c86a874608b653a8abaa92412baf5", func := "loop.example/g00062/laws.FnTriesEnd", spec := "fnTriesEnd", unfollowed := true, recurses := true, apart := false, narrowed := true }
def FnTriesEndUptoSaid : Prop := fnTriesEndUptoRow.holds Try.pinned (OpenSpec.upto fnTriesEndSpec)

/-- 'laws.FnPurged', WHERE WHAT IT READS IS OF BULK AT MOST 1048576: true; the input reads as it did. -/
def fnPurgedUptoRow : OpenClaim := { program := "ytpnihekpokfooaa", sum := "849b6e742236b85c5cda4b9bfdfbe4e5939c86a874608b653a8abaa92412baf5", func := "loop.example/g00062/laws.FnPurged", spec := "fnPurged", unfollowed := true, recurses := true, apart := false, narrowed := true }
def FnPurgedUptoSaid : Prop := fnPurgedUptoRow.holds Try.pinned (OpenSpec.upto fnPurgedSpec)

end Rows
end Go.Proofs.Ytpnihekpokfooaa
