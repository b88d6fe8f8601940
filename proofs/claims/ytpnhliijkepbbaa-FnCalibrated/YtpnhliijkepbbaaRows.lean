/-
  No cell of these rows narrows 'for every input' (looked for: loops, veiled, ifaces, maps, wideKeys, modest, calm, conditions, laid).
  DERIVED. THE GIVEN ROWS OF THIS SEAT. 3 by the template 'for every input the law returns true; each argument reads behind the call as it read before'; 0 by the template 'total and deterministic' (their statements: YtpnhliijkepbbaaTotals.lean).
  GIVEN WITH THE SEED: the statements are not yours to turn. If you find one false, say at which input.
  Laid BY PROGRAM, IN A SANDBOX (cutbox-rows.mjs): the forced cells as the released guide's own fill.sh prints them over the translation a3f1ccad343322d5… (all of the seat's roots in one cut). By AI agents, Wed Nov 11 2026. No macro, syntax, notation, axiom, sorry.
-/
import Derived.Test.YtpnhliijkepbbaaChecked
import GoSem.Claim
import GoSem.ClaimJoined
import GoSem.ClaimMapViews
import Derived.JoinedTies
import Derived.KernelRfl
namespace Go.Proofs.Ytpnhliijkepbbaa
/- THE CELL 'sum', in the pinned program and in every row, IS THE sha256 OF THE DUMP (.gsa) THAT YtpnhliijkepbbaaProg.lean LOADS. Nothing in Lean hashes anything: it is a label: what it is worth is what the hold of that sum in a sandbox is worth. -/
noncomputable def Try.pinned : Pinned := { name := "ytpnhliijkepbbaa", sum := "a3f1ccad343322d567a55cbcb757b9f87609391aa1d3ca3d1e170ef0df8b765f", checked := Try.checked }
namespace Rows
def none {H : Type} : Left H := { results := [], args := [] }

/-- 'laws.FnCalibrated': WHATEVER THE INPUT: true; the input reads as it did. -/
def fnCalibratedSpec : ChangeSpec := { name := "fnCalibrated", fn := fun _ => fun
  | [d] => { results := [.lit (.bool true)], args := [d] }
  | _ => none }
def fnCalibratedRow : OpenClaim := { program := "ytpnhliijkepbbaa", sum := "a3f1ccad343322d567a55cbcb757b9f87609391aa1d3ca3d1e170ef0df8b765f", func := "loop.example/g00062/laws.FnCalibrated", spec := "fnCalibrated", inPlace := ["math.Float64bits", "math.Float64frombits"], apart := false }
def FnCalibratedSaid : Prop := fnCalibratedRow.holds Try.pinned (OpenSpec.ofChange fnCalibratedSpec)

/-- ITS FALSE NEIGHBOUR: 'it returns false'. Refute it at one input. -/
def fnCalibratedWrong : ChangeSpec := { name := "fnCalibrated", fn := fun _ => fun
  | [d] => { results := [.lit (.bool false)], args := [d] }
  | _ => none }
def FnCalibratedWrongFalsely : Prop := fnCalibratedRow.holds Try.pinned (OpenSpec.ofChange fnCalibratedWrong)

/-- 'laws.FnExactCalibrate': WHATEVER THE INPUT: true; the input reads as it did. -/
def fnExactCalibrateSpec : ChangeSpec := { name := "fnExactCalibrate", fn := fun _ => fun
  | [d1, d2, d3, d4] => { results := [.lit (.bool true)], args := [d1, d2, d3, d4] }
  | _ => none }
def fnExactCalibrateRow : OpenClaim := { program := "ytpnhliijkepbbaa", sum := "a3f1ccad343322d567a55cbcb757b9f87609391aa1d3ca3d1e170ef0df8b765f", func := "loop.example/g00062/laws.FnExactCalibrate", spec := "fnExactCalibrate", inPlace := ["math.Float64bits", "math.Float64frombits"], apart := false }
def FnExactCalibrateSaid : Prop := fnExactCalibrateRow.holds Try.pinned (OpenSpec.ofChange fnExactCalibrateSpec)

/-- ITS FALSE NEIGHBOUR: 'it returns false'. Refute it at one input. -/
def fnExactCalibrateWrong : ChangeSpec := { name := "fnExactCalibrate", fn := fun _ => fun
  | [d1, d2, d3, d4] => { results := [.lit (.bool false)], args := [d1, d2, d3, d4] }
  | _ => none }
def FnExactCalibrateWrongFalsely : Prop := fnExactCalibrateRow.holds Try.pinned (OpenSpec.ofChange fnExactCalibrateWrong)

/-- 'laws.FnExactCorrected': WHATEVER THE INPUT: true; the input reads as it did. -/
def fnExactCorrectedSpec : ChangeSpec := { name := "fnExactCorrected", fn := fun _ => fun
  | [d1, d2, d3] => { results := [.lit (.bool true)], args := [d1, d2, d3] }
  | _ => none }
def fnExactCorrectedRow : OpenClaim := { program := "ytpnhliijkepbbaa", sum := "a3f1ccad343322d567a55cbcb757b9f87609391aa1d3ca3d1e170ef0df8b765f", func := "loop.example/g00062/laws.FnExactCorrected", spec := "fnExactCorrected", apart := false }
def FnExactCorrectedSaid : Prop := fnExactCorrectedRow.holds Try.pinned (OpenSpec.ofChange fnExactCorrectedSpec)

/-- ITS FALSE NEIGHBOUR: 'it returns false'. Refute it at one input. -/
def fnExactCorrectedWrong : ChangeSpec := { name := "fnExactCorrected", fn := fun _ => fun
  | [d1, d2, d3] => { results := [.lit (.bool false)], args := [d1, d2, d3] }
  | _ => none }
def FnExactCorrectedWrongFalsely : Prop := fnExactCorrectedRow.holds Try.pinned (OpenSpec.ofChange fnExactCorrectedWrong)

/- THE SECOND FORM. 'bulk': how many values and letters a reading holds, each counted each time it is reached (what is shared counts as often as it is met; a slice's spare places count too). A statement '..UptoSaid' is the law's where the arguments, and the package variables that the reading takes, are together of bulk at most 1048576: NARROWER than '..Said'. Prove '..Said' where nothing that the law and all that it calls make is longer than what came in: it says more and counts as full. Else prove '..UptoSaid'. A law counts once. -/
mutual
def uptoBulk {H : Type} : DataW H → Nat
  | .lit (.string bytes) => bytes.length + 1
  | .lit _ => 1
  | .nil => 1
  | .ptr d => uptoBulk d + 1
  | .slice elems spare => uptoBulkAll elems + uptoBulkAll spare + 1
  | .agg parts => uptoBulkAll parts + 1
  | .iface _ d => uptoBulk d + 1
  | .map entries => uptoBulkEntries entries + 1
  | .held _ => 1
def uptoBulkAll {H : Type} : List (DataW H) → Nat
  | [] => 0
  | d :: r => uptoBulk d + uptoBulkAll r
def uptoBulkEntries {H : Type} : List (Lit × DataW H) → Nat
  | [] => 0
  | x :: r => uptoBulkEntry x + uptoBulkEntries r
def uptoBulkEntry {H : Type} : Lit × DataW H → Nat
  | (.string bytes, d) => bytes.length + uptoBulk d + 1
  | (_, d) => uptoBulk d + 1
 end
def uptoSmall : (H : Type) → List (DataW H) → Bool := fun _ ds => decide (uptoBulkAll ds ≤ 1048576)
def OpenSpec.upto (s : _root_.Go.ChangeSpec) : _root_.Go.OpenSpec := { _root_.Go.OpenSpec.ofChange s with cond := some uptoSmall }

/-- 'laws.FnCalibrated', WHERE WHAT IT READS IS OF BULK AT MOST 1048576: true; the input reads as it did. -/
def fnCalibratedUptoRow : OpenClaim := { program := "ytpnhliijkepbbaa", sum := "a3f1ccad343322d567a55cbcb757b9f87609391aa1d3ca3d1e170ef0df8b765f", func := "loop.example/g00062/laws.FnCalibrated", spec := "fnCalibrated", inPlace := ["math.Float64bits", "math.Float64frombits"], apart := false, narrowed := true }
def FnCalibratedUptoSaid : Prop := fnCalibratedUptoRow.holds Try.pinned (OpenSpec.upto fnCalibratedSpec)

/-- 'laws.FnExactCalibrate', WHERE WHAT IT READS IS OF BULK AT MOST 1048576: true; the input reads as it did. -/
def fnExactCalibrateUptoRow : OpenClaim := { program := "ytpnhliijkepbbaa", sum := "a3f1ccad343322d567a55cbcb757b9f87609391aa1d3ca3d1e170ef0df8b765f", func := "loop.example/g00062/laws.FnExactCalibrate", spec := "fnExactCalibrate", inPlace := ["math.Float64bits", "math.Float64frombits"], apart := false, narrowed := true }
def FnExactCalibrateUptoSaid : Prop := fnExactCalibrateUptoRow.holds Try.pinned (OpenSpec.upto fnExactCalibrateSpec)

/-- 'laws.FnExactCorrected', WHERE WHAT IT READS IS OF BULK AT MOST 1048576: true; the input reads as it did. -/
def fnExactCorrectedUptoRow : OpenClaim := { program := "ytpnhliijkepbbaa", sum := "a3f1ccad343322d567a55cbcb757b9f87609391aa1d3ca3d1e170ef0df8b765f", func := "loop.example/g00062/laws.FnExactCorrected", spec := "fnExactCorrected", apart := false, narrowed := true }
def FnExactCorrectedUptoSaid : Prop := fnExactCorrectedUptoRow.holds Try.pinned (OpenSpec.upto fnExactCorrectedSpec)

end Rows
end Go.Proofs.Ytpnhliijkepbbaa
