/-
  No cell of these rows narrows 'for every input' (looked for: loops, veiled, ifaces, maps, wideKeys, modest, calm, conditions, laid).
  DERIVED. THE GIVEN ROWS OF THIS SEAT. 5 by the template 'for every input the law returns true; each argument reads behind the call as it read before'; 0 by the template 'total and deterministic' (their statements: YtdolcdedogienaaTotals.lean).
  GIVEN WITH THE SEED: the statements are not yours to turn. If you find one false, say at which input.
  Laid BY PROGRAM, IN A SANDBOX (cutbox-rows.mjs): the forced cells as the released guide's own fill.sh prints them over the translation b1cbe9fd3e8e140c… (all of the seat's roots in one cut). By AI agents, Wed Nov 11 2026. No macro, syntax, notation, axiom, sorry.
-/
import Derived.Test.YtdolcdedogienaaChecked
import GoSem.Claim
import GoSem.ClaimJoined
import GoSem.ClaimMapViews
import Derived.JoinedTies
import Derived.KernelRfl
namespace Go.Proofs.Ytdolcdedogienaa
/- THE CELL 'sum', in the pinned program and in every row, IS THE sha256 OF THE DUMP (.gsa) THAT YtdolcdedogienaaProg.lean LOADS. Nothing in Lean hashes anything: it is a label: what it is worth is what the hold of that sum in a sandbox is worth. -/
noncomputable def Try.pinned : Pinned := { name := "ytdolcdedogienaa", sum := "b1cbe9fd3e8e140c23d5b1ba5ca4acb65ece095a3affa523c56f857353a92640", checked := Try.checked }
namespace Rows
def none {H : Type} : Left H := { results := [], args := [] }

/-- 'laws.FnExactReadCount': WHATEVER THE INPUT: true; the input reads as it did. -/
def fnExactReadCountSpec : ChangeSpec := { name := "fnExactReadCount", fn := fun _ => fun
  | [d1, d2] => { results := [.lit (.bool true)], args := [d1, d2] }
  | _ => none }
def fnExactReadCountRow : OpenClaim := { program := "ytdolcdedogienaa", sum := "b1cbe9fd3e8e140c23d5b1ba5ca4acb65ece095a3affa523c56f857353a92640", func := "loop.example/g00062/laws.FnExactReadCount", spec := "fnExactReadCount", inPlace := ["math.Float64bits", "math.Float64frombits"], apart := false }
def FnExactReadCountSaid : Prop := fnExactReadCountRow.holds Try.pinned (OpenSpec.ofChange fnExactReadCountSpec)

/-- ITS FALSE NEIGHBOUR: 'it returns false'. Refute it at one input. -/
def fnExactReadCountWrong : ChangeSpec := { name := "fnExactReadCount", fn := fun _ => fun
  | [d1, d2] => { results := [.lit (.bool false)], args := [d1, d2] }
  | _ => none }
def FnExactReadCountWrongFalsely : Prop := fnExactReadCountRow.holds Try.pinned (OpenSpec.ofChange fnExactReadCountWrong)

/-- 'laws.FnExactCalibrate': WHATEVER THE INPUT: true; the input reads as it did. -/
def fnExactCalibrateSpec : ChangeSpec := { name := "fnExactCalibrate", fn := fun _ => fun
  | [d1, d2, d3, d4] => { results := [.lit (.bool true)], args := [d1, d2, d3, d4] }
  | _ => none }
def fnExactCalibrateRow : OpenClaim := { program := "ytdolcdedogienaa", sum := "b1cbe9fd3e8e140c23d5b1ba5ca4acb65ece095a3affa523c56f857353a92640", func := "loop.example/g00062/laws.FnExactCalibrate", spec := "fnExactCalibrate", inPlace := ["math.Float64bits", "math.Float64frombits"], apart := false }
def FnExactCalibrateSaid : Prop := fnExactCalibrateRow.holds Try.pinned (OpenSpec.ofChange fnExactCalibrateSpec)

/-- ITS FALSE NEIGHBOUR: 'it returns false'. Refute it at one input. -/
def fnExactCalibrateWrong : ChangeSpec := { name := "fnExactCalibrate", fn := fun _ => fun
  | [d1, d2, d3, d4] => { results := [.lit (.bool false)], args := [d1, d2, d3, d4] }
  | _ => none }
def FnExactCalibrateWrongFalsely : Prop := fnExactCalibrateRow.holds Try.pinned (OpenSpec.ofChange fnExactCalibrateWrong)

/-- 'laws.FnExactCorrected': WHATEVER THE INPUT: true; the input reads as it did. -/
def fnExactCorrectedSpec : ChangeSpec := { name := "fnExactCorrected", fn := fun _ => fun
  | [d1, d2, d3] => { results := [.lit (.bool true)], args := [d1, d2, d3] }
  | _ => none }
def fnExactCorrectedRow : OpenClaim := { program := "ytdolcdedogienaa", sum := "b1cbe9fd3e8e140c23d5b1ba5ca4acb65ece095a3affa523c56f857353a92640", func := "loop.example/g00062/laws.FnExactCorrected", spec := "fnExactCorrected", apart := false }
def FnExactCorrectedSaid : Prop := fnExactCorrectedRow.holds Try.pinned (OpenSpec.ofChange fnExactCorrectedSpec)

/-- ITS FALSE NEIGHBOUR: 'it returns false'. Refute it at one input. -/
def fnExactCorrectedWrong : ChangeSpec := { name := "fnExactCorrected", fn := fun _ => fun
  | [d1, d2, d3] => { results := [.lit (.bool false)], args := [d1, d2, d3] }
  | _ => none }
def FnExactCorrectedWrongFalsely : Prop := fnExactCorrectedRow.holds Try.pinned (OpenSpec.ofChange fnExactCorrectedWrong)

/-- 'laws.FnExactSettled': WHATEVER THE INPUT: true; the input reads as it did. -/
def fnExactSettledSpec : ChangeSpec := { name := "fnExactSettled", fn := fun _ => fun
  | [d1, d2, d3] => { results := [.lit (.bool true)], args := [d1, d2, d3] }
  | _ => none }
def fnExactSettledRow : OpenClaim := { program := "ytdolcdedogienaa", sum := "b1cbe9fd3e8e140c23d5b1ba5ca4acb65ece095a3affa523c56f857353a92640", func := "loop.example/g00062/laws.FnExactSettled", spec := "fnExactSettled", inPlace := ["math.Float64bits", "math.Float64frombits"], unfollowed := true, recurses := true, apart := false }
def FnExactSettledSaid : Prop := fnExactSettledRow.holds Try.pinned (OpenSpec.ofChange fnExactSettledSpec)

/-- ITS FALSE NEIGHBOUR: 'it returns false'. Refute it at one input. -/
def fnExactSettledWrong : ChangeSpec := { name := "fnExactSettled", fn := fun _ => fun
  | [d1, d2, d3] => { results := [.lit (.bool false)], args := [d1, d2, d3] }
  | _ => none }
def FnExactSettledWrongFalsely : Prop := fnExactSettledRow.holds Try.pinned (OpenSpec.ofChange fnExactSettledWrong)

/-- 'laws.FnExactDrifts': WHATEVER THE INPUT: true; the input reads as it did. -/
def fnExactDriftsSpec : ChangeSpec := { name := "fnExactDrifts", fn := fun _ => fun
  | [d1, d2] => { results := [.lit (.bool true)], args := [d1, d2] }
  | _ => none }
def fnExactDriftsRow : OpenClaim := { program := "ytdolcdedogienaa", sum := "b1cbe9fd3e8e140c23d5b1ba5ca4acb65ece095a3affa523c56f857353a92640", func := "loop.example/g00062/laws.FnExactDrifts", spec := "fnExactDrifts", inPlace := ["math.Float64bits", "math.Float64frombits"], unfollowed := true, recurses := true, apart := false }
def FnExactDriftsSaid : Prop := fnExactDriftsRow.holds Try.pinned (OpenSpec.ofChange fnExactDriftsSpec)

/-- ITS FALSE NEIGHBOUR: 'it returns false'. Refute it at one input. -/
def fnExactDriftsWrong : ChangeSpec := { name := "fnExactDrifts", fn := fun _ => fun
  | [d1, d2] => { results := [.lit (.bool false)], args := [d1, d2] }
  | _ => none }
def FnExactDriftsWrongFalsely : Prop := fnExactDriftsRow.holds Try.pinned (OpenSpec.ofChange fnExactDriftsWrong)

/- THE SECOND FORM. 'bulk': how many values and letters a reading holds, each counted each time it is reached (what is shared counts as often as it is met; a slice's spare places count too). A statement '..UptoSaid' is the law's where the arguments, and the package variables that the reading takes, are together of bulk at most 1048576: NARROWER than '..Said'. Prove '..Said' where nothing that the law and all that it calls make is longer than what came in: it says more and counts as full. Else prove '..UptoSaid'. A law counts once. -/
mutual
def uptoBulk {H : Type} : DataW H → Nat
  | .lit (.string bytes) => bytes.length + 1
  | .lit _ => 1
  | .nil => 1
  | .ptr d => uptoBulk d + 1
  | .slice elems spare => uptoBulkAll elems + uptoBulkAll spare + 1
  | .agg parts => uptoBulkAll parts + 1
  | .iface _ d => uptoBulk d + 1
  | .map entries => uptoBulkEntries entries + 1
  | .held _ => 1
def uptoBulkAll {H : Type} : List (DataW H) → Nat
  | [] => 0
  | d :: r => uptoBulk d + uptoBulkAll r
def uptoBulkEntries {H : Type} : List (Lit × DataW H) → Nat
  | [] => 0
  | x :: r => uptoBulkEntry x + uptoBulkEntries r
def uptoBulkEntry {H : Type} : Lit × DataW H → Nat
  | (.string bytes, d) => bytes.length + uptoBulk d + 1
  | (_, d) => uptoBulk d + 1
 end
def uptoSmall : (H : Type) → List (DataW H) → Bool := fun _ ds => decide (uptoBulkAll ds ≤ 1048576)
def OpenSpec.upto (s : _root_.Go.ChangeSpec) : _root_.Go.OpenSpec := { _root_.Go.OpenSpec.ofChange s with cond := some uptoSmall }

/-- 'laws.FnExactReadCount', WHERE WHAT IT READS IS OF BULK AT MOST 1048576: true; the input reads as it did. -/
def fnExactReadCountUptoRow : OpenClaim := { program := "ytdolcdedogienaa", sum := "b1cbe9fd3e8e140c23d5b1ba5ca4acb65ece095a3affa523c56f857353a92640", func := "loop.example/g00062/laws.FnExactReadCount", spec := "fnExactReadCount", inPlace := ["math.Float64bits", "math.Float64frombits"], apart := false, narrowed := true }
def FnExactReadCountUptoSaid : Prop := fnExactReadCountUptoRow.holds Try.pinned (OpenSpec.upto fnExactReadCountSpec)

/-- 'laws.FnExactCalibrate', WHERE WHAT IT READS IS OF BULK AT MOST 1048576: true; the input reads as it did. -/
def fnExactCalibrateUptoRow : OpenClaim := { program := "ytdolcdedogienaa", sum := "b1cbe9fd3e8e140c23d5b1ba5ca4acb65ece095a3affa523c56f857353a92640", func := "loop.example/g00062/laws.FnExactCalibrate", spec := "fnExactCalibrate", inPlace := ["math.Float64bits", "math.Float64frombits"], apart := false, narrowed := true }
def FnExactCalibrateUptoSaid : Prop := fnExactCalibrateUptoRow.holds Try.pinned (OpenSpec.upto fnExactCalibrateSpec)

/-- 'laws.FnExactCorrected', WHERE WHAT IT READS IS OF BULK AT MOST 1048576: true; the input reads as it did. -/
def fnExactCorrectedUptoRow : OpenClaim := { program := "ytdolcdedogienaa", sum := "b1cbe9fd3e8e140c23d5b1ba5ca4acb65ece095a3affa523c56f857353a92640", func := "loop.example/g00062/laws.FnExactCorrected", spec := "fnExactCorrected", apart := false, narrowed := true }
def FnExactCorrectedUptoSaid : Prop := fnExactCorrectedUptoRow.holds Try.pinned (OpenSpec.upto fnExactCorrectedSpec)

/-- 'laws.FnExactSettled', WHERE WHAT IT READS IS OF BULK AT MOST 1048576: true; the input reads as it did. -/
def fnExactSettledUptoRow : OpenClaim := { program := "ytdolcdedogienaa", sum := "b1cbe9fd3e8e140c23d5b1ba5ca4acb65ece095a3affa523c56f857353a92640", func := "loop.example/g00062/laws.FnExactSettled", spec := "fnExactSettled", inPlace := ["math.Float64bits", "math.Float64frombits"], unfollowed := true, recurses := true, apart := false, narrowed := true }
def FnExactSettledUptoSaid : Prop := fnExactSettledUptoRow.holds Try.pinned (OpenSpec.upto fnExactSettledSpec)

/-- 'laws.FnExactDrifts', WHERE WHAT IT READS IS OF BULK AT MOST 1048576: true; the input reads as it did. -/
def fnExactDriftsUptoRow : OpenClaim := { program := "ytdolcdedogienaa", sum := "b1cbe9fd3e8e140c23d5b1ba5ca4acb65ece095a3affa523c56f857353a92640", func := "loop.example/g00062/laws.FnExactDrifts", spec := "fnExactDrifts", inPlace := ["math.Float64bits", "math.Float64frombits"], unfollowed := true, recurses := true, apart := false, narrowed := true }
def FnExactDriftsUptoSaid : Prop := fnExactDriftsUptoRow.holds Try.pinned (OpenSpec.upto fnExactDriftsSpec)

end Rows
end Go.Proofs.Ytdolcdedogienaa
