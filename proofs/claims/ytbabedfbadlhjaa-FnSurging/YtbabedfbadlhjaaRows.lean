/-
  No cell of these rows narrows 'for every input' (looked for: loops, veiled, ifaces, maps, wideKeys, modest, calm, conditions, laid).
  DERIVED. THE GIVEN ROWS OF THIS SEAT. 6 by the template 'for every input the law returns true; each argument reads behind the call as it read before'; 0 by the template 'total and deterministic' (their statements: YtbabedfbadlhjaaTotals.lean).
  GIVEN WITH THE SEED: the statements are not yours to turn. If you find one false, say at which input.
  Laid BY PROGRAM, IN A SANDBOX (cutbox-rows.mjs): the forced cells as the released guide's own fill.sh prints them over the translation fedcc75cdaf060d7… (all of the seat's roots in one cut). By AI agents, Wed Nov 11 2026. No macro, syntax, notation, axiom, sorry.
-/
import Derived.Test.YtbabedfbadlhjaaChecked
import GoSem.Claim
import GoSem.ClaimJoined
import GoSem.ClaimMapViews
import Derived.JoinedTies
import Derived.KernelRfl
namespace Go.Proofs.Ytbabedfbadlhjaa
/- THE CELL 'sum', in the pinned program and in every row, IS THE sha256 OF THE DUMP (.gsa) THAT YtbabedfbadlhjaaProg.lean LOADS. Nothing in Lean hashes anything: it is a label: what it is worth is what the hold of that sum in a sandbox is worth. -/
noncomputable def Try.pinned : Pinned := { name := "ytbabedfbadlhjaa", sum := "fedcc75cdaf060d7edb61a433db72553e42f96c491bed25861d68a572a6db2c5", checked := Try.checked }
namespace Rows
def none {H : Type} : Left H := { results := [], args := [] }

/-- 'laws.FnOnLines': WHATEVER THE INPUT: true; the input reads as it did. -/
def fnOnLinesSpec : ChangeSpec := { name := "fnOnLines", fn := fun _ => fun
  | [d] => { results := [.lit (.bool true)], args := [d] }
  | _ => none }
def fnOnLinesRow : OpenClaim := { program := "ytbabedfbadlhjaa", sum := "fedcc75cdaf060d7edb61a433db72553e42f96c491bed25861d68a572a6db2c5", func := "loop.example/g00062/laws.FnOnLines", spec := "fnOnLines", inPlace := ["math.Float64frombits"], unfollowed := true, recurses := true, apart := false }
def FnOnLinesSaid : Prop := fnOnLinesRow.holds Try.pinned (OpenSpec.ofChange fnOnLinesSpec)

/-- ITS FALSE NEIGHBOUR: 'it returns false'. Refute it at one input. -/
def fnOnLinesWrong : ChangeSpec := { name := "fnOnLines", fn := fun _ => fun
  | [d] => { results := [.lit (.bool false)], args := [d] }
  | _ => none }
def FnOnLinesWrongFalsely : Prop := fnOnLinesRow.holds Try.pinned (OpenSpec.ofChange fnOnLinesWrong)

/-- 'laws.FnSurging': WHATEVER THE INPUT: true; the input reads as it did. -/
def fnSurgingSpec : ChangeSpec := { name := "fnSurging", fn := fun _ => fun
  | [d] => { results := [.lit (.bool true)], args := [d] }
  | _ => none }
def fnSurgingRow : OpenClaim := { program := "ytbabedfbadlhjaa", sum := "fedcc75cdaf060d7edb61a433db72553e42f96c491bed25861d68a572a6db2c5", func := "loop.example/g00062/laws.FnSurging", spec := "fnSurging", inPlace := ["math.Float64frombits"], unfollowed := true, recurses := true, apart := false }
def FnSurgingSaid : Prop := fnSurgingRow.holds Try.pinned (OpenSpec.ofChange fnSurgingSpec)

/-- ITS FALSE NEIGHBOUR: 'it returns false'. Refute it at one input. -/
def fnSurgingWrong : ChangeSpec := { name := "fnSurging", fn := fun _ => fun
  | [d] => { results := [.lit (.bool false)], args := [d] }
  | _ => none }
def FnSurgingWrongFalsely : Prop := fnSurgingRow.holds Try.pinned (OpenSpec.ofChange fnSurgingWrong)

/-- 'laws.FnExactMapOk': WHATEVER THE INPUT: true; the input reads as it did. -/
def fnExactMapOkSpec : ChangeSpec := { name := "fnExactMapOk", fn := fun _ => fun
  | [d] => { results := [.lit (.bool true)], args := [d] }
  | _ => none }
def fnExactMapOkRow : OpenClaim := { program := "ytbabedfbadlhjaa", sum := "fedcc75cdaf060d7edb61a433db72553e42f96c491bed25861d68a572a6db2c5", func := "loop.example/g00062/laws.FnExactMapOk", spec := "fnExactMapOk", apart := false }
def FnExactMapOkSaid : Prop := fnExactMapOkRow.holds Try.pinned (OpenSpec.ofChange fnExactMapOkSpec)

/-- ITS FALSE NEIGHBOUR: 'it returns false'. Refute it at one input. -/
def fnExactMapOkWrong : ChangeSpec := { name := "fnExactMapOk", fn := fun _ => fun
  | [d] => { results := [.lit (.bool false)], args := [d] }
  | _ => none }
def FnExactMapOkWrongFalsely : Prop := fnExactMapOkRow.holds Try.pinned (OpenSpec.ofChange fnExactMapOkWrong)

/-- 'laws.FnExactRatioAt': WHATEVER THE INPUT: true; the input reads as it did. -/
def fnExactRatioAtSpec : ChangeSpec := { name := "fnExactRatioAt", fn := fun _ => fun
  | [d1, d2, d3] => { results := [.lit (.bool true)], args := [d1, d2, d3] }
  | _ => none }
def fnExactRatioAtRow : OpenClaim := { program := "ytbabedfbadlhjaa", sum := "fedcc75cdaf060d7edb61a433db72553e42f96c491bed25861d68a572a6db2c5", func := "loop.example/g00062/laws.FnExactRatioAt", spec := "fnExactRatioAt", inPlace := ["math.Float64frombits"], unfollowed := true, recurses := true, apart := false }
def FnExactRatioAtSaid : Prop := fnExactRatioAtRow.holds Try.pinned (OpenSpec.ofChange fnExactRatioAtSpec)

/-- ITS FALSE NEIGHBOUR: 'it returns false'. Refute it at one input. -/
def fnExactRatioAtWrong : ChangeSpec := { name := "fnExactRatioAt", fn := fun _ => fun
  | [d1, d2, d3] => { results := [.lit (.bool false)], args := [d1, d2, d3] }
  | _ => none }
def FnExactRatioAtWrongFalsely : Prop := fnExactRatioAtRow.holds Try.pinned (OpenSpec.ofChange fnExactRatioAtWrong)

/-- 'laws.FnExactSurgeAt': WHATEVER THE INPUT: true; the input reads as it did. -/
def fnExactSurgeAtSpec : ChangeSpec := { name := "fnExactSurgeAt", fn := fun _ => fun
  | [d1, d2] => { results := [.lit (.bool true)], args := [d1, d2] }
  | _ => none }
def fnExactSurgeAtRow : OpenClaim := { program := "ytbabedfbadlhjaa", sum := "fedcc75cdaf060d7edb61a433db72553e42f96c491bed25861d68a572a6db2c5", func := "loop.example/g00062/laws.FnExactSurgeAt", spec := "fnExactSurgeAt", inPlace := ["math.Float64frombits"], unfollowed := true, recurses := true, apart := false }
def FnExactSurgeAtSaid : Prop := fnExactSurgeAtRow.holds Try.pinned (OpenSpec.ofChange fnExactSurgeAtSpec)

/-- ITS FALSE NEIGHBOUR: 'it returns false'. Refute it at one input. -/
def fnExactSurgeAtWrong : ChangeSpec := { name := "fnExactSurgeAt", fn := fun _ => fun
  | [d1, d2] => { results := [.lit (.bool false)], args := [d1, d2] }
  | _ => none }
def FnExactSurgeAtWrongFalsely : Prop := fnExactSurgeAtRow.holds Try.pinned (OpenSpec.ofChange fnExactSurgeAtWrong)

/-- 'laws.FnExactMargin': WHATEVER THE INPUT: true; the input reads as it did. -/
def fnExactMarginSpec : ChangeSpec := { name := "fnExactMargin", fn := fun _ => fun
  | [d1, d2, d3] => { results := [.lit (.bool true)], args := [d1, d2, d3] }
  | _ => none }
def fnExactMarginRow : OpenClaim := { program := "ytbabedfbadlhjaa", sum := "fedcc75cdaf060d7edb61a433db72553e42f96c491bed25861d68a572a6db2c5", func := "loop.example/g00062/laws.FnExactMargin", spec := "fnExactMargin", inPlace := ["math.Float64frombits"], unfollowed := true, recurses := true, apart := false }
def FnExactMarginSaid : Prop := fnExactMarginRow.holds Try.pinned (OpenSpec.ofChange fnExactMarginSpec)

/-- ITS FALSE NEIGHBOUR: 'it returns false'. Refute it at one input. -/
def fnExactMarginWrong : ChangeSpec := { name := "fnExactMargin", fn := fun _ => fun
  | [d1, d2, d3] => { results := [.lit (.bool false)], args := [d1, d2, d3] }
  | _ => none }
def FnExactMarginWrongFalsely : Prop := fnExactMarginRow.holds Try.pinned (OpenSpec.ofChange fnExactMarginWrong)

/- THE SECOND FORM. 'bulk': how many values and letters a reading holds, each counted each time it is reached (what is shared counts as often as it is met; a slice's spare places count too). A statement '..UptoSaid' is the law's where the arguments, and the package variables that the reading takes, are together of bulk at most 1048576: NARROWER than '..Said'. Prove '..Said' where nothing that the law and all that it calls make is longer than what came in: it says more and counts as full. Else prove '..UptoSaid'. A law counts once. -/
mutual
def uptoBulk {H : Type} : DataW H → Nat
  | .lit (.string bytes) => bytes.length + 1
  | .lit _ => 1
  | .nil => 1
  | .ptr d => uptoBulk d + 1
  | .slice elems spare => uptoBulkAll elems + uptoBulkAll spare + 1
  | .agg parts => uptoBulkAll parts + 1
  | .iface _ d => uptoBulk d + 1
  | .map entries => uptoBulkEntries entries + 1
  | .held _ => 1
def uptoBulkAll {H : Type} : List (DataW H) → Nat
  | [] => 0
  | d :: r => uptoBulk d + uptoBulkAll r
def uptoBulkEntries {H : Type} : List (Lit × DataW H) → Nat
  | [] => 0
  | x :: r => uptoBulkEntry x + uptoBulkEntries r
def uptoBulkEntry {H : Type} : Lit × DataW H → Nat
  | (.string bytes, d) => bytes.length + uptoBulk d + 1
  | (_, d) => uptoBulk d + 1
 end
def uptoSmall : (H : Type) → List (DataW H) → Bool := fun _ ds => decide (uptoBulkAll ds ≤ 1048576)
def OpenSpec.upto (s : _root_.Go.ChangeSpec) : _root_.Go.OpenSpec := { _root_.Go.OpenSpec.ofChange s with cond := some uptoSmall }

/-- 'laws.FnOnLines', WHERE WHAT IT READS IS OF BULK AT MOST 1048576: true; the input reads as it did. -/
def fnOnLinesUptoRow : OpenClaim := { program := "ytbabedfbadlhjaa", sum := "fedcc75cdaf060d7edb61a433db72553e42f96c491bed25861d68a572a6db2c5", func := "loop.example/g00062/laws.FnOnLines", spec := "fnOnLines", inPlace := ["math.Float64frombits"], unfollowed := true, recurses := true, apart := false, narrowed := true }
def FnOnLinesUptoSaid : Prop := fnOnLinesUptoRow.holds Try.pinned (OpenSpec.upto fnOnLinesSpec)

/-- 'laws.FnSurging', WHERE WHAT IT READS IS OF BULK AT MOST 1048576: true; the input reads as it did. -/
def fnSurgingUptoRow : OpenClaim := { program := "ytbabedfbadlhjaa", sum := "fedcc75cdaf060d7edb61a433db72553e42f96c491bed25861d68a572a6db2c5", func := "loop.example/g00062/laws.FnSurging", spec := "fnSurging", inPlace := ["math.Float64frombits"], unfollowed := true, recurses := true, apart := false, narrowed := true }
def FnSurgingUptoSaid : Prop := fnSurgingUptoRow.holds Try.pinned (OpenSpec.upto fnSurgingSpec)

/-- 'laws.FnExactMapOk', WHERE WHAT IT READS IS OF BULK AT MOST 1048576: true; the input reads as it did. -/
def fnExactMapOkUptoRow : OpenClaim := { program := "ytbabedfbadlhjaa", sum := "fedcc75cdaf060d7edb61a433db72553e42f96c491bed25861d68a572a6db2c5", func := "loop.example/g00062/laws.FnExactMapOk", spec := "fnExactMapOk", apart := false, narrowed := true }
def FnExactMapOkUptoSaid : Prop := fnExactMapOkUptoRow.holds Try.pinned (OpenSpec.upto fnExactMapOkSpec)

/-- 'laws.FnExactRatioAt', WHERE WHAT IT READS IS OF BULK AT MOST 1048576: true; the input reads as it did. -/
def fnExactRatioAtUptoRow : OpenClaim := { program := "ytbabedfbadlhjaa", sum := "fedcc75cdaf060d7edb61a433db72553e42f96c491bed25861d68a572a6db2c5", func := "loop.example/g00062/laws.FnExactRatioAt", spec := "fnExactRatioAt", inPlace := ["math.Float64frombits"], unfollowed := true, recurses := true, apart := false, narrowed := true }
def FnExactRatioAtUptoSaid : Prop := fnExactRatioAtUptoRow.holds Try.pinned (OpenSpec.upto fnExactRatioAtSpec)

/-- 'laws.FnExactSurgeAt', WHERE WHAT IT READS IS OF BULK AT MOST 1048576: true; the input reads as it did. -/
def fnExactSurgeAtUptoRow : OpenClaim := { program := "ytbabedfbadlhjaa", sum := "fedcc75cdaf060d7edb61a433db72553e42f96c491bed25861d68a572a6db2c5", func := "loop.example/g00062/laws.FnExactSurgeAt", spec := "fnExactSurgeAt", inPlace := ["math.Float64frombits"], unfollowed := true, recurses := true, apart := false, narrowed := true }
def FnExactSurgeAtUptoSaid : Prop := fnExactSurgeAtUptoRow.holds Try.pinned (OpenSpec.upto fnExactSurgeAtSpec)

/-- 'laws.FnExactMargin', WHERE WHAT IT READS IS OF BULK AT MOST 1048576: true; the input reads as it did. -/
def fnExactMarginUptoRow : OpenClaim := { program := "ytbabedfbadlhjaa", sum := "fedcc75cdaf060d7edb61a433db72553e42f96c491bed25861d68a572a6db2c5", func := "loop.example/g00062/laws.FnExactMargin", spec := "fnExactMargin", inPlace := ["math.Float64frombits"], unfollowed := true, recurses := true, apart := false, narrowed := true }
def FnExactMarginUptoSaid : Prop := fnExactMarginUptoRow.holds Try.pinned (OpenSpec.upto fnExactMarginSpec)

end Rows
end Go.Proofs.Ytbabedfbadlhjaa
