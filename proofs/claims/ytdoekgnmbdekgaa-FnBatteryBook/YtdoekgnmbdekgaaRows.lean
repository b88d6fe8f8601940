/-
  No cell of these rows narrows 'for every input' (looked for: loops, veiled, ifaces, maps, wideKeys, modest, calm, conditions, laid).
  DERIVED. THE GIVEN ROWS OF THIS SEAT. 4 by the template 'for every input the law returns true; each argument reads behind the call as it read before'; 0 by the template 'total and deterministic' (their statements: YtdoekgnmbdekgaaTotals.lean).
  GIVEN WITH THE SEED: the statements are not yours to turn. If you find one false, say at which input.
  Laid BY PROGRAM, IN A SANDBOX (cutbox-rows.mjs): the forced cells as the released guide's own fill.sh prints them over the translation e22b518201c0e73c… (all of the seat's roots in one cut). By AI agents, Wed Nov 11 2026. No macro, syntax, notation, axiom, sorry.
-/
import Derived.Test.YtdoekgnmbdekgaaChecked
import GoSem.Claim
import GoSem.ClaimJoined
import GoSem.ClaimMapViews
import Derived.JoinedTies
import Derived.KernelRfl
namespace Go.Proofs.Ytdoekgnmbdekgaa
/- THE CELL 'sum', in the pinned program and in every row, IS THE sha256 OF THE DUMP (.gsa) THAT YtdoekgnmbdekgaaProg.lean LOADS. Nothing in Lean hashes anything: it is a label: what it is worth is what the hold of that sum in a sandbox is worth. -/
noncomputable def Try.pinned : Pinned := { name := "ytdoekgnmbdekgaa", sum := "e22b518201c0e73cdf73486930e29c5274f7ef2f2ce5765b0bb2f77c4cdb8b91", checked := Try.checked }
namespace Rows
def none {H : Type} : Left H := { results := [], args := [] }

/-- 'laws.FnExactPowerAt': WHATEVER THE INPUT: true; the input reads as it did. -/
def fnExactPowerAtSpec : ChangeSpec := { name := "fnExactPowerAt", fn := fun _ => fun
  | [d1, d2, d3] => { results := [.lit (.bool true)], args := [d1, d2, d3] }
  | _ => none }
def fnExactPowerAtRow : OpenClaim := { program := "ytdoekgnmbdekgaa", sum := "e22b518201c0e73cdf73486930e29c5274f7ef2f2ce5765b0bb2f77c4cdb8b91", func := "loop.example/g00062/laws.FnExactPowerAt", spec := "fnExactPowerAt", apart := false }
def FnExactPowerAtSaid : Prop := fnExactPowerAtRow.holds Try.pinned (OpenSpec.ofChange fnExactPowerAtSpec)

/-- ITS FALSE NEIGHBOUR: 'it returns false'. Refute it at one input. -/
def fnExactPowerAtWrong : ChangeSpec := { name := "fnExactPowerAt", fn := fun _ => fun
  | [d1, d2, d3] => { results := [.lit (.bool false)], args := [d1, d2, d3] }
  | _ => none }
def FnExactPowerAtWrongFalsely : Prop := fnExactPowerAtRow.holds Try.pinned (OpenSpec.ofChange fnExactPowerAtWrong)

/-- 'laws.FnExactBatteryStep': WHATEVER THE INPUT: true; the input reads as it did. -/
def fnExactBatteryStepSpec : ChangeSpec := { name := "fnExactBatteryStep", fn := fun _ => fun
  | [d1, d2, d3] => { results := [.lit (.bool true)], args := [d1, d2, d3] }
  | _ => none }
def fnExactBatteryStepRow : OpenClaim := { program := "ytdoekgnmbdekgaa", sum := "e22b518201c0e73cdf73486930e29c5274f7ef2f2ce5765b0bb2f77c4cdb8b91", func := "loop.example/g00062/laws.FnExactBatteryStep", spec := "fnExactBatteryStep", apart := false }
def FnExactBatteryStepSaid : Prop := fnExactBatteryStepRow.holds Try.pinned (OpenSpec.ofChange fnExactBatteryStepSpec)

/-- ITS FALSE NEIGHBOUR: 'it returns false'. Refute it at one input. -/
def fnExactBatteryStepWrong : ChangeSpec := { name := "fnExactBatteryStep", fn := fun _ => fun
  | [d1, d2, d3] => { results := [.lit (.bool false)], args := [d1, d2, d3] }
  | _ => none }
def FnExactBatteryStepWrongFalsely : Prop := fnExactBatteryStepRow.holds Try.pinned (OpenSpec.ofChange fnExactBatteryStepWrong)

/-- 'laws.FnExactLasts': WHATEVER THE INPUT: true; the input reads as it did. -/
def fnExactLastsSpec : ChangeSpec := { name := "fnExactLasts", fn := fun _ => fun
  | [d1, d2] => { results := [.lit (.bool true)], args := [d1, d2] }
  | _ => none }
def fnExactLastsRow : OpenClaim := { program := "ytdoekgnmbdekgaa", sum := "e22b518201c0e73cdf73486930e29c5274f7ef2f2ce5765b0bb2f77c4cdb8b91", func := "loop.example/g00062/laws.FnExactLasts", spec := "fnExactLasts", apart := false }
def FnExactLastsSaid : Prop := fnExactLastsRow.holds Try.pinned (OpenSpec.ofChange fnExactLastsSpec)

/-- ITS FALSE NEIGHBOUR: 'it returns false'. Refute it at one input. -/
def fnExactLastsWrong : ChangeSpec := { name := "fnExactLasts", fn := fun _ => fun
  | [d1, d2] => { results := [.lit (.bool false)], args := [d1, d2] }
  | _ => none }
def FnExactLastsWrongFalsely : Prop := fnExactLastsRow.holds Try.pinned (OpenSpec.ofChange fnExactLastsWrong)

/-- 'laws.FnBatteryBook': WHATEVER THE INPUT: true; the input reads as it did. -/
def fnBatteryBookSpec : ChangeSpec := { name := "fnBatteryBook", fn := fun _ => fun
  | [d] => { results := [.lit (.bool true)], args := [d] }
  | _ => none }
def fnBatteryBookRow : OpenClaim := { program := "ytdoekgnmbdekgaa", sum := "e22b518201c0e73cdf73486930e29c5274f7ef2f2ce5765b0bb2f77c4cdb8b91", func := "loop.example/g00062/laws.FnBatteryBook", spec := "fnBatteryBook", apart := false }
def FnBatteryBookSaid : Prop := fnBatteryBookRow.holds Try.pinned (OpenSpec.ofChange fnBatteryBookSpec)

/-- ITS FALSE NEIGHBOUR: 'it returns false'. Refute it at one input. -/
def fnBatteryBookWrong : ChangeSpec := { name := "fnBatteryBook", fn := fun _ => fun
  | [d] => { results := [.lit (.bool false)], args := [d] }
  | _ => none }
def FnBatteryBookWrongFalsely : Prop := fnBatteryBookRow.holds Try.pinned (OpenSpec.ofChange fnBatteryBookWrong)

/- THE SECOND FORM. 'bulk': how many values and letters a reading holds, each counted each time it is reached (what is shared counts as often as it is met; a slice's spare places count too). A statement '..UptoSaid' is the law's where the arguments, and the package variables that the reading takes, are together of bulk at most 1048576: NARROWER than '..Said'. Prove '..Said' where nothing that the law and all that it calls make is longer than what came in: it says more and counts as full. Else prove '..UptoSaid'. A law counts once. -/
mutual
def uptoBulk {H : Type} : DataW H → Nat
  | .lit (.string bytes) => bytes.length + 1
  | .lit _ => 1
  | .nil => 1
  | .ptr d => uptoBulk d + 1
  | .slice elems spare => uptoBulkAll elems + uptoBulkAll spare + 1
  | .agg parts => uptoBulkAll parts + 1
  | .iface _ d => uptoBulk d + 1
  | .map entries => uptoBulkEntries entries + 1
  | .held _ => 1
def uptoBulkAll {H : Type} : List (DataW H) → Nat
  | [] => 0
  | d :: r => uptoBulk d + uptoBulkAll r
def uptoBulkEntries {H : Type} : List (Lit × DataW H) → Nat
  | [] => 0
  | x :: r => uptoBulkEntry x + uptoBulkEntries r
def uptoBulkEntry {H : Type} : Lit × DataW H → Nat
  | (.string bytes, d) => bytes.length + uptoBulk d + 1
  | (_, d) => uptoBulk d + 1
 end
def uptoSmall : (H : Type) → List (DataW H) → Bool := fun _ ds => decide (uptoBulkAll ds ≤ 1048576)
def OpenSpec.upto (s : _root_.Go.ChangeSpec) : _root_.Go.OpenSpec := { _root_.Go.OpenSpec.ofChange s with cond := some uptoSmall }

/-- 'laws.FnExactPowerAt', WHERE WHAT IT READS IS OF BULK AT MOST 1048576: true; the input reads as it did. -/
def fnExactPowerAtUptoRow : OpenClaim := { program := "ytdoekgnmbdekgaa", sum := "e22b518201c0e73cdf73486930e29c5274f7ef2f2ce5765b0bb2f77c4cdb8b91", func := "loop.example/g00062/laws.FnExactPowerAt", spec := "fnExactPowerAt", apart := false, narrowed := true }
def FnExactPowerAtUptoSaid : Prop := fnExactPowerAtUptoRow.holds Try.pinned (OpenSpec.upto fnExactPowerAtSpec)

/-- 'laws.FnExactBatteryStep', WHERE WHAT IT READS IS OF BULK AT MOST 1048576: true; the input reads as it did. -/
def fnExactBatteryStepUptoRow : OpenClaim := { program := "ytdoekgnmbdekgaa", sum := "e22b518201c0e73cdf73486930e29c5274f7ef2f2ce5765b0bb2f77c4cdb8b91", func := "loop.example/g00062/laws.FnExactBatteryStep", spec := "fnExactBatteryStep", apart := false, narrowed := true }
def FnExactBatteryStepUptoSaid : Prop := fnExactBatteryStepUptoRow.holds Try.pinned (OpenSpec.upto fnExactBatteryStepSpec)

/-- 'laws.FnExactLasts', WHERE WHAT IT READS IS OF BULK AT MOST 1048576: true; the input reads as it did. -/
def fnExactLastsUptoRow : OpenClaim := { program := "ytdoekgnmbdekgaa", sum := "e22b518201c0e73cdf73486930e29c5274f7ef2f2ce5765b0bb2f77c4cdb8b91", func := "loop.example/g00062/laws.FnExactLasts", spec := "fnExactLasts", apart := false, narrowed := true }
def FnExactLastsUptoSaid : Prop := fnExactLastsUptoRow.holds Try.pinned (OpenSpec.upto fnExactLastsSpec)

/-- 'laws.FnBatteryBook', WHERE WHAT IT READS IS OF BULK AT MOST 1048576: true; the input reads as it did. -/
def fnBatteryBookUptoRow : OpenClaim := { program := "ytdoekgnmbdekgaa", sum := "e22b518201c0e73cdf73486930e29c5274f7ef2f2ce5765b0bb2f77c4cdb8b91", func := "loop.example/g00062/laws.FnBatteryBook", spec := "fnBatteryBook", apart := false, narrowed := true }
def FnBatteryBookUptoSaid : Prop := fnBatteryBookUptoRow.holds Try.pinned (OpenSpec.upto fnBatteryBookSpec)

end Rows
end Go.Proofs.Ytdoekgnmbdekgaa
