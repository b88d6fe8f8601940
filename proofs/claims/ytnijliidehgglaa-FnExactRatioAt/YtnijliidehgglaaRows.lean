/-
  No cell of these rows narrows 'for every input' (looked for: loops, veiled, ifaces, maps, wideKeys, modest, calm, conditions, laid).
  DERIVED. THE GIVEN ROWS OF THIS SEAT. 5 by the template 'for every input the law returns true; each argument reads behind the call as it read before'; 0 by the template 'total and deterministic' (their statements: YtnijliidehgglaaTotals.lean).
  GIVEN WITH THE SEED: the statements are not yours to turn. If you find one false, say at which input.
  Laid BY PROGRAM, IN A SANDBOX (cutbox-rows.mjs): the forced cells as the released guide's own fill.sh prints them over the translation c418191f1da62b5f… (all of the seat's roots in one cut). By AI agents, Wed Nov 11 2026. No macro, syntax, notation, axiom, sorry.
-/
import Derived.Test.YtnijliidehgglaaChecked
import GoSem.Claim
import GoSem.ClaimJoined
import GoSem.ClaimMapViews
import Derived.JoinedTies
import Derived.KernelRfl
namespace Go.Proofs.Ytnijliidehgglaa
/- THE CELL 'sum', in the pinned program and in every row, IS THE sha256 OF THE DUMP (.gsa) THAT YtnijliidehgglaaProg.lean LOADS. Nothing in Lean hashes anything: it is a label: what it is worth is what the hold of that sum in a sandbox is worth. -/
noncomputable def Try.pinned : Pinned := { name := "ytnijliidehgglaa", sum := "c418191f1da62b5fa66b55c50cfcc199d9e2212e622ed4413869963c907648fd", checked := Try.checked }
namespace Rows
def none {H : Type} : Left H := { results := [], args := [] }

/-- 'laws.FnExactMapOk': WHATEVER THE INPUT: true; the input reads as it did. -/
def fnExactMapOkSpec : ChangeSpec := { name := "fnExactMapOk", fn := fun _ => fun
  | [d] => { results := [.lit (.bool true)], args := [d] }
  | _ => none }
def fnExactMapOkRow : OpenClaim := { program := "ytnijliidehgglaa", sum := "c418191f1da62b5fa66b55c50cfcc199d9e2212e622ed4413869963c907648fd", func := "loop.example/g00062/laws.FnExactMapOk", spec := "fnExactMapOk", apart := false }
def FnExactMapOkSaid : Prop := fnExactMapOkRow.holds Try.pinned (OpenSpec.ofChange fnExactMapOkSpec)

/-- ITS FALSE NEIGHBOUR: 'it returns false'. Refute it at one input. -/
def fnExactMapOkWrong : ChangeSpec := { name := "fnExactMapOk", fn := fun _ => fun
  | [d] => { results := [.lit (.bool false)], args := [d] }
  | _ => none }
def FnExactMapOkWrongFalsely : Prop := fnExactMapOkRow.holds Try.pinned (OpenSpec.ofChange fnExactMapOkWrong)

/-- 'laws.FnExactRatioAt': WHATEVER THE INPUT: true; the input reads as it did. -/
def fnExactRatioAtSpec : ChangeSpec := { name := "fnExactRatioAt", fn := fun _ => fun
  | [d1, d2, d3] => { results := [.lit (.bool true)], args := [d1, d2, d3] }
  | _ => none }
def fnExactRatioAtRow : OpenClaim := { program := "ytnijliidehgglaa", sum := "c418191f1da62b5fa66b55c50cfcc199d9e2212e622ed4413869963c907648fd", func := "loop.example/g00062/laws.FnExactRatioAt", spec := "fnExactRatioAt", inPlace := ["math.Float64frombits"], unfollowed := true, recurses := true, apart := false }
def FnExactRatioAtSaid : Prop := fnExactRatioAtRow.holds Try.pinned (OpenSpec.ofChange fnExactRatioAtSpec)

/-- ITS FALSE NEIGHBOUR: 'it returns false'. Refute it at one input. -/
def fnExactRatioAtWrong : ChangeSpec := { name := "fnExactRatioAt", fn := fun _ => fun
  | [d1, d2, d3] => { results := [.lit (.bool false)], args := [d1, d2, d3] }
  | _ => none }
def FnExactRatioAtWrongFalsely : Prop := fnExactRatioAtRow.holds Try.pinned (OpenSpec.ofChange fnExactRatioAtWrong)

/-- 'laws.FnExactSurgeAt': WHATEVER THE INPUT: true; the input reads as it did. -/
def fnExactSurgeAtSpec : ChangeSpec := { name := "fnExactSurgeAt", fn := fun _ => fun
  | [d1, d2] => { results := [.lit (.bool true)], args := [d1, d2] }
  | _ => none }
def fnExactSurgeAtRow : OpenClaim := { program := "ytnijliidehgglaa", sum := "c418191f1da62b5fa66b55c50cfcc199d9e2212e622ed4413869963c907648fd", func := "loop.example/g00062/laws.FnExactSurgeAt", spec := "fnExactSurgeAt", inPlace := ["math.Float64frombits"], unfollowed := true, recurses := true, apart := false }
def FnExactSurgeAtSaid : Prop := fnExactSurgeAtRow.holds Try.pinned (OpenSpec.ofChange fnExactSurgeAtSpec)

/-- ITS FALSE NEIGHBOUR: 'it returns false'. Refute it at one input. -/
def fnExactSurgeAtWrong : ChangeSpec := { name := "fnExactSurgeAt", fn := fun _ => fun
  | [d1, d2] => { results := [.lit (.bool false)], args := [d1, d2] }
  | _ => none }
def FnExactSurgeAtWrongFalsely : Prop := fnExactSurgeAtRow.holds Try.pinned (OpenSpec.ofChange fnExactSurgeAtWrong)

/-- 'laws.FnExactMargin': WHATEVER THE INPUT: true; the input reads as it did. -/
def fnExactMarginSpec : ChangeSpec := { name := "fnExactMargin", fn := fun _ => fun
  | [d1, d2, d3] => { results := [.lit (.bool true)], args := [d1, d2, d3] }
  | _ => none }
def fnExactMarginRow : OpenClaim := { program := "ytnijliidehgglaa", sum := "c418191f1da62b5fa66b55c50cfcc199d9e2212e622ed4413869963c907648fd", func := "loop.example/g00062/laws.FnExactMargin", spec := "fnExactMargin", inPlace := ["math.Float64frombits"], unfollowed := true, recurses := true, apart := false }
def FnExactMarginSaid : Prop := fnExactMarginRow.holds Try.pinned (OpenSpec.ofChange fnExactMarginSpec)

/-- ITS FALSE NEIGHBOUR: 'it returns false'. Refute it at one input. -/
def fnExactMarginWrong : ChangeSpec := { name := "fnExactMargin", fn := fun _ => fun
  | [d1, d2, d3] => { results := [.lit (.bool false)], args := [d1, d2, d3] }
  | _ => none }
def FnExactMarginWrongFalsely : Prop := fnExactMarginRow.holds Try.pinned (OpenSpec.ofChange fnExactMarginWrong)

/-- 'laws.FnExactSurges': WHATEVER THE INPUT: true; the input reads as it did. -/
def fnExactSurgesSpec : ChangeSpec := { name := "fnExactSurges", fn := fun _ => fun
  | [d1, d2, d3] => { results := [.lit (.bool true)], args := [d1, d2, d3] }
  | _ => none }
def fnExactSurgesRow : OpenClaim := { program := "ytnijliidehgglaa", sum := "c418191f1da62b5fa66b55c50cfcc199d9e2212e622ed4413869963c907648fd", func := "loop.example/g00062/laws.FnExactSurges", spec := "fnExactSurges", inPlace := ["math.Float64frombits"], unfollowed := true, recurses := true, apart := false }
def FnExactSurgesSaid : Prop := fnExactSurgesRow.holds Try.pinned (OpenSpec.ofChange fnExactSurgesSpec)

/-- ITS FALSE NEIGHBOUR: 'it returns false'. Refute it at one input. -/
def fnExactSurgesWrong : ChangeSpec := { name := "fnExactSurges", fn := fun _ => fun
  | [d1, d2, d3] => { results := [.lit (.bool false)], args := [d1, d2, d3] }
  | _ => none }
def FnExactSurgesWrongFalsely : Prop := fnExactSurgesRow.holds Try.pinned (OpenSpec.ofChange fnExactSurgesWrong)

/- THE SECOND FORM. 'bulk': how many values and letters a reading holds, each counted each time it is reached (what is shared counts as often as it is met; a slice's spare places count too). A statement '..UptoSaid' is the law's where the arguments, and the package variables that the reading takes, are together of bulk at most 1048576: NARROWER than '..Said'. Prove '..Said' where nothing that the law and all that it calls make is longer than what came in: it says more and counts as full. Else prove '..UptoSaid'. A law counts once. -/
mutual
def uptoBulk {H : Type} : DataW H → Nat
  | .lit (.string bytes) => bytes.length + 1
  | .lit _ => 1
  | .nil => 1
  | .ptr d => uptoBulk d + 1
  | .slice elems spare => uptoBulkAll elems + uptoBulkAll spare + 1
  | .agg parts => uptoBulkAll parts + 1
  | .iface _ d => uptoBulk d + 1
  | .map entries => uptoBulkEntries entries + 1
  | .held _ => 1
def uptoBulkAll {H : Type} : List (DataW H) → Nat
  | [] => 0
  | d :: r => uptoBulk d + uptoBulkAll r
def uptoBulkEntries {H : Type} : List (Lit × DataW H) → Nat
  | [] => 0
  | x :: r => uptoBulkEntry x + uptoBulkEntries r
def uptoBulkEntry {H : Type} : Lit × DataW H → Nat
  | (.string bytes, d) => bytes.length + uptoBulk d + 1
  | (_, d) => uptoBulk d + 1
 end
def uptoSmall : (H : Type) → List (DataW H) → Bool := fun _ ds => decide (uptoBulkAll ds ≤ 1048576)
def OpenSpec.upto (s : _root_.Go.ChangeSpec) : _root_.Go.OpenSpec := { _root_.Go.OpenSpec.ofChange s with cond := some uptoSmall }

/-- 'laws.FnExactMapOk', WHERE WHAT IT READS IS OF BULK AT MOST 1048576: true; the input reads as it did. -/
def fnExactMapOkUptoRow : OpenClaim := { program := "ytnijliidehgglaa", sum := "c418191f1da62b5fa66b55c50cfcc199d9e2212e622ed4413869963c907648fd", func := "loop.example/g00062/laws.FnExactMapOk", spec := "fnExactMapOk", apart := false, narrowed := true }
def FnExactMapOkUptoSaid : Prop := fnExactMapOkUptoRow.holds Try.pinned (OpenSpec.upto fnExactMapOkSpec)

/-- 'laws.FnExactRatioAt', WHERE WHAT IT READS IS OF BULK AT MOST 1048576: true; the input reads as it did. -/
def fnExactRatioAtUptoRow : OpenClaim := { program := "ytnijliidehgglaa", sum := "c418191f1da62b5fa66b55c50cfcc199d9e2212e622ed4413869963c907648fd", func := "loop.example/g00062/laws.FnExactRatioAt", spec := "fnExactRatioAt", inPlace := ["math.Float64frombits"], unfollowed := true, recurses := true, apart := false, narrowed := true }
def FnExactRatioAtUptoSaid : Prop := fnExactRatioAtUptoRow.holds Try.pinned (OpenSpec.upto fnExactRatioAtSpec)

/-- 'laws.FnExactSurgeAt', WHERE WHAT IT READS IS OF BULK AT MOST 1048576: true; the input reads as it did. -/
def fnExactSurgeAtUptoRow : OpenClaim := { program := "ytnijliidehgglaa", sum := "c418191f1da62b5fa66b55c50cfcc199d9e2212e622ed4413869963c907648fd", func := "loop.example/g00062/laws.FnExactSurgeAt", spec := "fnExactSurgeAt", inPlace := ["math.Float64frombits"], unfollowed := true, recurses := true, apart := false, narrowed := true }
def FnExactSurgeAtUptoSaid : Prop := fnExactSurgeAtUptoRow.holds Try.pinned (OpenSpec.upto fnExactSurgeAtSpec)

/-- 'laws.FnExactMargin', WHERE WHAT IT READS IS OF BULK AT MOST 1048576: true; the input reads as it did. -/
def fnExactMarginUptoRow : OpenClaim := { program := "ytnijliidehgglaa", sum := "c418191f1da62b5fa66b55c50cfcc199d9e2212e622ed4413869963c907648fd", func := "loop.example/g00062/laws.FnExactMargin", spec := "fnExactMargin", inPlace := ["math.Float64frombits"], unfollowed := true, recurses := true, apart := false, narrowed := true }
def FnExactMarginUptoSaid : Prop := fnExactMarginUptoRow.holds Try.pinned (OpenSpec.upto fnExactMarginSpec)

/-- 'laws.FnExactSurges', WHERE WHAT IT READS IS OF BULK AT MOST 1048576: true; the input reads as it did. -/
def fnExactSurgesUptoRow : OpenClaim := { program := "ytnijliidehgglaa", sum := "c418191f1da62b5fa66b55c50cfcc199d9e2212e622ed4413869963c907648fd", func := "loop.example/g00062/laws.FnExactSurges", spec := "fnExactSurges", inPlace := ["math.Float64frombits"], unfollowed := true, recurses := true, apart := false, narrowed := true }
def FnExactSurgesUptoSaid : Prop := fnExactSurgesUptoRow.holds Try.pinned (OpenSpec.upto fnExactSurgesSpec)

end Rows
end Go.Proofs.Ytnijliidehgglaa
