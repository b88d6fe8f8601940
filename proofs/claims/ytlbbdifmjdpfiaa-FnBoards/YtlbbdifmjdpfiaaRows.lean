/-
  No cell of these rows narrows 'for every input' (looked for: loops, veiled, ifaces, maps, wideKeys, modest, calm, conditions, laid).
  DERIVED. THE GIVEN ROWS OF THIS SEAT. 6 by the template 'for every input the law returns true; each argument reads behind the call as it read before'; 0 by the template 'total and deterministic' (their statements: YtlbbdifmjdpfiaaTotals.lean).
  GIVEN WITH THE SEED: the statements are not yours to turn. If you find one false, say at which input.
  Laid BY PROGRAM, IN A SANDBOX (cutbox-rows.mjs): the forced cells as the released guide's own fill.sh prints them over the translation 6e1c063276c081de… (all of the seat's roots in one cut). By AI agents, Wed Nov 11 2026. No macro, syntax, notation, axiom, sorry.
-/
import Derived.Test.YtlbbdifmjdpfiaaChecked
import GoSem.Claim
import GoSem.ClaimJoined
import GoSem.ClaimMapViews
import Derived.JoinedTies
import Derived.KernelRfl
namespace Go.Proofs.Ytlbbdifmjdpfiaa
/- THE CELL 'sum', in the pinned program and in every row, IS THE sha256 OF THE DUMP (.gsa) THAT YtlbbdifmjdpfiaaProg.lean LOADS. Nothing in Lean hashes anything: it is a label: what it is worth is what the hold of that sum in a sandbox is worth. -/
noncomputable def Try.pinned : Pinned := { name := "ytlbbdifmjdpfiaa", sum := "6e1c063276c081de6e0504c0e46a74c3d03eabe74ccf5a55cd2b80a2faff5250", checked := Try.checked }
namespace Rows
def none {H : Type} : Left H := { results := [], args := [] }

/-- 'laws.FnBoards': WHATEVER THE INPUT: true; the input reads as it did. -/
def fnBoardsSpec : ChangeSpec := { name := "fnBoards", fn := fun _ => fun
  | [d] => { results := [.lit (.bool true)], args := [d] }
  | _ => none }
def fnBoardsRow : OpenClaim := { program := "ytlbbdifmjdpfiaa", sum := "6e1c063276c081de6e0504c0e46a74c3d03eabe74ccf5a55cd2b80a2faff5250", func := "loop.example/g00062/laws.FnBoards", spec := "fnBoards", apart := false }
def FnBoardsSaid : Prop := fnBoardsRow.holds Try.pinned (OpenSpec.ofChange fnBoardsSpec)

/-- ITS FALSE NEIGHBOUR: 'it returns false'. Refute it at one input. -/
def fnBoardsWrong : ChangeSpec := { name := "fnBoards", fn := fun _ => fun
  | [d] => { results := [.lit (.bool false)], args := [d] }
  | _ => none }
def FnBoardsWrongFalsely : Prop := fnBoardsRow.holds Try.pinned (OpenSpec.ofChange fnBoardsWrong)

/-- 'laws.FnExactBoardRun': WHATEVER THE INPUT: true; the input reads as it did. -/
def fnExactBoardRunSpec : ChangeSpec := { name := "fnExactBoardRun", fn := fun _ => fun
  | [d1, d2] => { results := [.lit (.bool true)], args := [d1, d2] }
  | _ => none }
def fnExactBoardRunRow : OpenClaim := { program := "ytlbbdifmjdpfiaa", sum := "6e1c063276c081de6e0504c0e46a74c3d03eabe74ccf5a55cd2b80a2faff5250", func := "loop.example/g00062/laws.FnExactBoardRun", spec := "fnExactBoardRun", apart := false }
def FnExactBoardRunSaid : Prop := fnExactBoardRunRow.holds Try.pinned (OpenSpec.ofChange fnExactBoardRunSpec)

/-- ITS FALSE NEIGHBOUR: 'it returns false'. Refute it at one input. -/
def fnExactBoardRunWrong : ChangeSpec := { name := "fnExactBoardRun", fn := fun _ => fun
  | [d1, d2] => { results := [.lit (.bool false)], args := [d1, d2] }
  | _ => none }
def FnExactBoardRunWrongFalsely : Prop := fnExactBoardRunRow.holds Try.pinned (OpenSpec.ofChange fnExactBoardRunWrong)

/-- 'laws.FnExactBoardStep': WHATEVER THE INPUT: true; the input reads as it did. -/
def fnExactBoardStepSpec : ChangeSpec := { name := "fnExactBoardStep", fn := fun _ => fun
  | [d1, d2] => { results := [.lit (.bool true)], args := [d1, d2] }
  | _ => none }
def fnExactBoardStepRow : OpenClaim := { program := "ytlbbdifmjdpfiaa", sum := "6e1c063276c081de6e0504c0e46a74c3d03eabe74ccf5a55cd2b80a2faff5250", func := "loop.example/g00062/laws.FnExactBoardStep", spec := "fnExactBoardStep", apart := false }
def FnExactBoardStepSaid : Prop := fnExactBoardStepRow.holds Try.pinned (OpenSpec.ofChange fnExactBoardStepSpec)

/-- ITS FALSE NEIGHBOUR: 'it returns false'. Refute it at one input. -/
def fnExactBoardStepWrong : ChangeSpec := { name := "fnExactBoardStep", fn := fun _ => fun
  | [d1, d2] => { results := [.lit (.bool false)], args := [d1, d2] }
  | _ => none }
def FnExactBoardStepWrongFalsely : Prop := fnExactBoardStepRow.holds Try.pinned (OpenSpec.ofChange fnExactBoardStepWrong)

/-- 'laws.FnExactBoardOk': WHATEVER THE INPUT: true; the input reads as it did. -/
def fnExactBoardOkSpec : ChangeSpec := { name := "fnExactBoardOk", fn := fun _ => fun
  | [d] => { results := [.lit (.bool true)], args := [d] }
  | _ => none }
def fnExactBoardOkRow : OpenClaim := { program := "ytlbbdifmjdpfiaa", sum := "6e1c063276c081de6e0504c0e46a74c3d03eabe74ccf5a55cd2b80a2faff5250", func := "loop.example/g00062/laws.FnExactBoardOk", spec := "fnExactBoardOk", apart := false }
def FnExactBoardOkSaid : Prop := fnExactBoardOkRow.holds Try.pinned (OpenSpec.ofChange fnExactBoardOkSpec)

/-- ITS FALSE NEIGHBOUR: 'it returns false'. Refute it at one input. -/
def fnExactBoardOkWrong : ChangeSpec := { name := "fnExactBoardOk", fn := fun _ => fun
  | [d] => { results := [.lit (.bool false)], args := [d] }
  | _ => none }
def FnExactBoardOkWrongFalsely : Prop := fnExactBoardOkRow.holds Try.pinned (OpenSpec.ofChange fnExactBoardOkWrong)

/-- 'laws.FnExactFirstOf': WHATEVER THE INPUT: true; the input reads as it did. -/
def fnExactFirstOfSpec : ChangeSpec := { name := "fnExactFirstOf", fn := fun _ => fun
  | [d1, d2] => { results := [.lit (.bool true)], args := [d1, d2] }
  | _ => none }
def fnExactFirstOfRow : OpenClaim := { program := "ytlbbdifmjdpfiaa", sum := "6e1c063276c081de6e0504c0e46a74c3d03eabe74ccf5a55cd2b80a2faff5250", func := "loop.example/g00062/laws.FnExactFirstOf", spec := "fnExactFirstOf", apart := false }
def FnExactFirstOfSaid : Prop := fnExactFirstOfRow.holds Try.pinned (OpenSpec.ofChange fnExactFirstOfSpec)

/-- ITS FALSE NEIGHBOUR: 'it returns false'. Refute it at one input. -/
def fnExactFirstOfWrong : ChangeSpec := { name := "fnExactFirstOf", fn := fun _ => fun
  | [d1, d2] => { results := [.lit (.bool false)], args := [d1, d2] }
  | _ => none }
def FnExactFirstOfWrongFalsely : Prop := fnExactFirstOfRow.holds Try.pinned (OpenSpec.ofChange fnExactFirstOfWrong)

/-- 'laws.FnExactStanding': WHATEVER THE INPUT: true; the input reads as it did. -/
def fnExactStandingSpec : ChangeSpec := { name := "fnExactStanding", fn := fun _ => fun
  | [d] => { results := [.lit (.bool true)], args := [d] }
  | _ => none }
def fnExactStandingRow : OpenClaim := { program := "ytlbbdifmjdpfiaa", sum := "6e1c063276c081de6e0504c0e46a74c3d03eabe74ccf5a55cd2b80a2faff5250", func := "loop.example/g00062/laws.FnExactStanding", spec := "fnExactStanding", apart := false }
def FnExactStandingSaid : Prop := fnExactStandingRow.holds Try.pinned (OpenSpec.ofChange fnExactStandingSpec)

/-- ITS FALSE NEIGHBOUR: 'it returns false'. Refute it at one input. -/
def fnExactStandingWrong : ChangeSpec := { name := "fnExactStanding", fn := fun _ => fun
  | [d] => { results := [.lit (.bool false)], args := [d] }
  | _ => none }
def FnExactStandingWrongFalsely : Prop := fnExactStandingRow.holds Try.pinned (OpenSpec.ofChange fnExactStandingWrong)

/- THE SECOND FORM. 'bulk': how many values and letters a reading holds, each counted each time it is reached (what is shared counts as often as it is met; a slice's spare places count too). A statement '..UptoSaid' is the law's where the arguments, and the package variables that the reading takes, are together of bulk at most 1048576: NARROWER than '..Said'. Prove '..Said' where nothing that the law and all that it calls make is longer than what came in: it says more and counts as full. Else prove '..UptoSaid'. A law counts once. -/
mutual
def uptoBulk {H : Type} : DataW H → Nat
  | .lit (.string bytes) => bytes.length + 1
  | .lit _ => 1
  | .nil => 1
  | .ptr d => uptoBulk d + 1
  | .slice elems spare => uptoBulkAll elems + uptoBulkAll spare + 1
  | .agg parts => uptoBulkAll parts + 1
  | .iface _ d => uptoBulk d + 1
  | .map entries => uptoBulkEntries entries + 1
  | .held _ => 1
def uptoBulkAll {H : Type} : List (DataW H) → Nat
  | [] => 0
  | d :: r => uptoBulk d + uptoBulkAll r
def uptoBulkEntries {H : Type} : List (Lit × DataW H) → Nat
  | [] => 0
  | x :: r => uptoBulkEntry x + uptoBulkEntries r
def uptoBulkEntry {H : Type} : Lit × DataW H → Nat
  | (.string bytes, d) => bytes.length + uptoBulk d + 1
  | (_, d) => uptoBulk d + 1
 end
def uptoSmall : (H : Type) → List (DataW H) → Bool := fun _ ds => decide (uptoBulkAll ds ≤ 1048576)
def OpenSpec.upto (s : _root_.Go.ChangeSpec) : _root_.Go.OpenSpec := { _root_.Go.OpenSpec.ofChange s with cond := some uptoSmall }

/-- 'laws.FnBoards', WHERE WHAT IT READS IS OF BULK AT MOST 1048576: true; the input reads as it did. -/
def fnBoardsUptoRow : OpenClaim := { program := "ytlbbdifmjdpfiaa", sum := "6e1c063276c081de6e0504c0e46a74c3d03eabe74ccf5a55cd2b80a2faff5250", func := "loop.example/g00062/laws.FnBoards", spec := "fnBoards", apart := false, narrowed := true }
def FnBoardsUptoSaid : Prop := fnBoardsUptoRow.holds Try.pinned (OpenSpec.upto fnBoardsSpec)

/-- 'laws.FnExactBoardRun', WHERE WHAT IT READS IS OF BULK AT MOST 1048576: true; the input reads as it did. -/
def fnExactBoardRunUptoRow : OpenClaim := { program := "ytlbbdifmjdpfiaa", sum := "6e1c063276c081de6e0504c0e46a74c3d03eabe74ccf5a55cd2b80a2faff5250", func := "loop.example/g00062/laws.FnExactBoardRun", spec := "fnExactBoardRun", apart := false, narrowed := true }
def FnExactBoardRunUptoSaid : Prop := fnExactBoardRunUptoRow.holds Try.pinned (OpenSpec.upto fnExactBoardRunSpec)

/-- 'laws.FnExactBoardStep', WHERE WHAT IT READS IS OF BULK AT MOST 1048576: true; the input reads as it did. -/
def fnExactBoardStepUptoRow : OpenClaim := { program := "ytlbbdifmjdpfiaa", sum := "6e1c063276c081de6e0504c0e46a74c3d03eabe74ccf5a55cd2b80a2faff5250", func := "loop.example/g00062/laws.FnExactBoardStep", spec := "fnExactBoardStep", apart := false, narrowed := true }
def FnExactBoardStepUptoSaid : Prop := fnExactBoardStepUptoRow.holds Try.pinned (OpenSpec.upto fnExactBoardStepSpec)

/-- 'laws.FnExactBoardOk', WHERE WHAT IT READS IS OF BULK AT MOST 1048576: true; the input reads as it did. -/
def fnExactBoardOkUptoRow : OpenClaim := { program := "ytlbbdifmjdpfiaa", sum := "6e1c063276c081de6e0504c0e46a74c3d03eabe74ccf5a55cd2b80a2faff5250", func := "loop.example/g00062/laws.FnExactBoardOk", spec := "fnExactBoardOk", apart := false, narrowed := true }
def FnExactBoardOkUptoSaid : Prop := fnExactBoardOkUptoRow.holds Try.pinned (OpenSpec.upto fnExactBoardOkSpec)

/-- 'laws.FnExactFirstOf', WHERE WHAT IT READS IS OF BULK AT MOST 1048576: true; the input reads as it did. -/
def fnExactFirstOfUptoRow : OpenClaim := { program := "ytlbbdifmjdpfiaa", sum := "6e1c063276c081de6e0504c0e46a74c3d03eabe74ccf5a55cd2b80a2faff5250", func := "loop.example/g00062/laws.FnExactFirstOf", spec := "fnExactFirstOf", apart := false, narrowed := true }
def FnExactFirstOfUptoSaid : Prop := fnExactFirstOfUptoRow.holds Try.pinned (OpenSpec.upto fnExactFirstOfSpec)

/-- 'laws.FnExactStanding', WHERE WHAT IT READS IS OF BULK AT MOST 1048576: true; the input reads as it did. -/
def fnExactStandingUptoRow : OpenClaim := { program := "ytlbbdifmjdpfiaa", sum := "6e1c063276c081de6e0504c0e46a74c3d03eabe74ccf5a55cd2b80a2faff5250", func := "loop.example/g00062/laws.FnExactStanding", spec := "fnExactStanding", apart := false, narrowed := true }
def FnExactStandingUptoSaid : Prop := fnExactStandingUptoRow.holds Try.pinned (OpenSpec.upto fnExactStandingSpec)

end Rows
end Go.Proofs.Ytlbbdifmjdpfiaa
