/-
  No cell of these rows narrows 'for every input' (looked for: loops, veiled, ifaces, maps, wideKeys, modest, calm, conditions, laid).
  DERIVED. THE GIVEN ROWS OF THIS SEAT. 5 by the template 'for every input the law returns true; each argument reads behind the call as it read before'; 0 by the template 'total and deterministic' (their statements: YtcialcejmjggeaaTotals.lean).
  GIVEN WITH THE SEED: the statements are not yours to turn. If you find one false, say at which input.
  Laid BY PROGRAM, IN A SANDBOX (cutbox-rows.mjs): the forced cells as the released guide's own fill.sh prints them over the translation 13884d4f70956af7… (all of the seat's roots in one cut). By AI agents, Wed Nov 11 2026. No macro, syntax, notation, axiom, sorry.
-/
import Derived.Test.YtcialcejmjggeaaChecked
import GoSem.Claim
import GoSem.ClaimJoined
import GoSem.ClaimMapViews
import Derived.JoinedTies
import Derived.KernelRfl
namespace Go.Proofs.Ytcialcejmjggeaa
/- THE CELL 'sum', in the pinned program and in every row, IS THE sha256 OF THE DUMP (.gsa) THAT YtcialcejmjggeaaProg.lean LOADS. Nothing in Lean hashes anything: it is a label: what it is worth is what the hold of that sum in a sandbox is worth. -/
noncomputable def Try.pinned : Pinned := { name := "ytcialcejmjggeaa", sum := "13884d4f70956af7c7e2ed0381ae51ab38d1b45bf5fa0a6e23ec754b330d39f5", checked := Try.checked }
namespace Rows
def none {H : Type} : Left H := { results := [], args := [] }

/-- 'laws.FnExactShed': WHATEVER THE INPUT: true; the input reads as it did. -/
def fnExactShedSpec : ChangeSpec := { name := "fnExactShed", fn := fun _ => fun
  | [d1, d2] => { results := [.lit (.bool true)], args := [d1, d2] }
  | _ => none }
def fnExactShedRow : OpenClaim := { program := "ytcialcejmjggeaa", sum := "13884d4f70956af7c7e2ed0381ae51ab38d1b45bf5fa0a6e23ec754b330d39f5", func := "loop.example/g00062/laws.FnExactShed", spec := "fnExactShed", unfollowed := true, recurses := true, apart := false }
def FnExactShedSaid : Prop := fnExactShedRow.holds Try.pinned (OpenSpec.ofChange fnExactShedSpec)

/-- ITS FALSE NEIGHBOUR: 'it returns false'. Refute it at one input. -/
def fnExactShedWrong : ChangeSpec := { name := "fnExactShed", fn := fun _ => fun
  | [d1, d2] => { results := [.lit (.bool false)], args := [d1, d2] }
  | _ => none }
def FnExactShedWrongFalsely : Prop := fnExactShedRow.holds Try.pinned (OpenSpec.ofChange fnExactShedWrong)

/-- 'laws.FnExactLoading': WHATEVER THE INPUT: true; the input reads as it did. -/
def fnExactLoadingSpec : ChangeSpec := { name := "fnExactLoading", fn := fun _ => fun
  | [d1, d2] => { results := [.lit (.bool true)], args := [d1, d2] }
  | _ => none }
def fnExactLoadingRow : OpenClaim := { program := "ytcialcejmjggeaa", sum := "13884d4f70956af7c7e2ed0381ae51ab38d1b45bf5fa0a6e23ec754b330d39f5", func := "loop.example/g00062/laws.FnExactLoading", spec := "fnExactLoading", unfollowed := true, recurses := true, apart := false }
def FnExactLoadingSaid : Prop := fnExactLoadingRow.holds Try.pinned (OpenSpec.ofChange fnExactLoadingSpec)

/-- ITS FALSE NEIGHBOUR: 'it returns false'. Refute it at one input. -/
def fnExactLoadingWrong : ChangeSpec := { name := "fnExactLoading", fn := fun _ => fun
  | [d1, d2] => { results := [.lit (.bool false)], args := [d1, d2] }
  | _ => none }
def FnExactLoadingWrongFalsely : Prop := fnExactLoadingRow.holds Try.pinned (OpenSpec.ofChange fnExactLoadingWrong)

/-- 'laws.FnShed': WHATEVER THE INPUT: true; the input reads as it did. -/
def fnShedSpec : ChangeSpec := { name := "fnShed", fn := fun _ => fun
  | [d] => { results := [.lit (.bool true)], args := [d] }
  | _ => none }
def fnShedRow : OpenClaim := { program := "ytcialcejmjggeaa", sum := "13884d4f70956af7c7e2ed0381ae51ab38d1b45bf5fa0a6e23ec754b330d39f5", func := "loop.example/g00062/laws.FnShed", spec := "fnShed", unfollowed := true, recurses := true, apart := false }
def FnShedSaid : Prop := fnShedRow.holds Try.pinned (OpenSpec.ofChange fnShedSpec)

/-- ITS FALSE NEIGHBOUR: 'it returns false'. Refute it at one input. -/
def fnShedWrong : ChangeSpec := { name := "fnShed", fn := fun _ => fun
  | [d] => { results := [.lit (.bool false)], args := [d] }
  | _ => none }
def FnShedWrongFalsely : Prop := fnShedRow.holds Try.pinned (OpenSpec.ofChange fnShedWrong)

/-- 'laws.FnNeverOver': WHATEVER THE INPUT: true; the input reads as it did. -/
def fnNeverOverSpec : ChangeSpec := { name := "fnNeverOver", fn := fun _ => fun
  | [d] => { results := [.lit (.bool true)], args := [d] }
  | _ => none }
def fnNeverOverRow : OpenClaim := { program := "ytcialcejmjggeaa", sum := "13884d4f70956af7c7e2ed0381ae51ab38d1b45bf5fa0a6e23ec754b330d39f5", func := "loop.example/g00062/laws.FnNeverOver", spec := "fnNeverOver", unfollowed := true, recurses := true, apart := false }
def FnNeverOverSaid : Prop := fnNeverOverRow.holds Try.pinned (OpenSpec.ofChange fnNeverOverSpec)

/-- ITS FALSE NEIGHBOUR: 'it returns false'. Refute it at one input. -/
def fnNeverOverWrong : ChangeSpec := { name := "fnNeverOver", fn := fun _ => fun
  | [d] => { results := [.lit (.bool false)], args := [d] }
  | _ => none }
def FnNeverOverWrongFalsely : Prop := fnNeverOverRow.holds Try.pinned (OpenSpec.ofChange fnNeverOverWrong)

/-- 'laws.FnExactPowerAt': WHATEVER THE INPUT: true; the input reads as it did. -/
def fnExactPowerAtSpec : ChangeSpec := { name := "fnExactPowerAt", fn := fun _ => fun
  | [d1, d2, d3] => { results := [.lit (.bool true)], args := [d1, d2, d3] }
  | _ => none }
def fnExactPowerAtRow : OpenClaim := { program := "ytcialcejmjggeaa", sum := "13884d4f70956af7c7e2ed0381ae51ab38d1b45bf5fa0a6e23ec754b330d39f5", func := "loop.example/g00062/laws.FnExactPowerAt", spec := "fnExactPowerAt", apart := false }
def FnExactPowerAtSaid : Prop := fnExactPowerAtRow.holds Try.pinned (OpenSpec.ofChange fnExactPowerAtSpec)

/-- ITS FALSE NEIGHBOUR: 'it returns false'. Refute it at one input. -/
def fnExactPowerAtWrong : ChangeSpec := { name := "fnExactPowerAt", fn := fun _ => fun
  | [d1, d2, d3] => { results := [.lit (.bool false)], args := [d1, d2, d3] }
  | _ => none }
def FnExactPowerAtWrongFalsely : Prop := fnExactPowerAtRow.holds Try.pinned (OpenSpec.ofChange fnExactPowerAtWrong)

/- THE SECOND FORM. 'bulk': how many values and letters a reading holds, each counted each time it is reached (what is shared counts as often as it is met; a slice's spare places count too). A statement '..UptoSaid' is the law's where the arguments, and the package variables that the reading takes, are together of bulk at most 1048576: NARROWER than '..Said'. Prove '..Said' where nothing that the law and all that it calls make is longer than what came in: it says more and counts as full. Else prove '..UptoSaid'. A law counts once. -/
mutual
def uptoBulk {H : Type} : DataW H → Nat
  | .lit (.string bytes) => bytes.length + 1
  | .lit _ => 1
  | .nil => 1
  | .ptr d => uptoBulk d + 1
  | .slice elems spare => uptoBulkAll elems + uptoBulkAll spare + 1
  | .agg parts => uptoBulkAll parts + 1
  | .iface _ d => uptoBulk d + 1
  | .map entries => uptoBulkEntries entries + 1
  | .held _ => 1
def uptoBulkAll {H : Type} : List (DataW H) → Nat
  | [] => 0
  | d :: r => uptoBulk d + uptoBulkAll r
def uptoBulkEntries {H : Type} : List (Lit × DataW H) → Nat
  | [] => 0
  | x :: r => uptoBulkEntry x + uptoBulkEntries r
def uptoBulkEntry {H : Type} : Lit × DataW H → Nat
  | (.string bytes, d) => bytes.length + uptoBulk d + 1
  | (_, d) => uptoBulk d + 1
 end
def uptoSmall : (H : Type) → List (DataW H) → Bool := fun _ ds => decide (uptoBulkAll ds ≤ 1048576)
def OpenSpec.upto (s : _root_.Go.ChangeSpec) : _root_.Go.OpenSpec := { _root_.Go.OpenSpec.ofChange s with cond := some uptoSmall }

/-- 'laws.FnExactShed', WHERE WHAT IT READS IS OF BULK AT MOST 1048576: true; the input reads as it did. -/
def fnExactShedUptoRow : OpenClaim := { program := "ytcialcejmjggeaa", sum := "13884d4f70956af7c7e2ed0381ae51ab38d1b45bf5fa0a6e23ec754b330d39f5", func := "loop.example/g00062/laws.FnExactShed", spec := "fnExactShed", unfollowed := true, recurses := true, apart := false, narrowed := true }
def FnExactShedUptoSaid : Prop := fnExactShedUptoRow.holds Try.pinned (OpenSpec.upto fnExactShedSpec)

/-- 'laws.FnExactLoading', WHERE WHAT IT READS IS OF BULK AT MOST 1048576: true; the input reads as it did. -/
def fnExactLoadingUptoRow : OpenClaim := { program := "ytcialcejmjggeaa", sum := "13884d4f70956af7c7e2ed0381ae51ab38d1b45bf5fa0a6e23ec754b330d39f5", func := "loop.example/g00062/laws.FnExactLoading", spec := "fnExactLoading", unfollowed := true, recurses := true, apart := false, narrowed := true }
def FnExactLoadingUptoSaid : Prop := fnExactLoadingUptoRow.holds Try.pinned (OpenSpec.upto fnExactLoadingSpec)

/-- 'laws.FnShed', WHERE WHAT IT READS IS OF BULK AT MOST 1048576: true; the input reads as it did. -/
def fnShedUptoRow : OpenClaim := { program := "ytcialcejmjggeaa", sum := "13884d4f70956af7c7e2ed0381ae51ab38d1b45bf5fa0a6e23ec754b330d39f5", func := "loop.example/g00062/laws.FnShed", spec := "fnShed", unfollowed := true, recurses := true, apart := false, narrowed := true }
def FnShedUptoSaid : Prop := fnShedUptoRow.holds Try.pinned (OpenSpec.upto fnShedSpec)

/-- 'laws.FnNeverOver', WHERE WHAT IT READS IS OF BULK AT MOST 1048576: true; the input reads as it did. -/
def fnNeverOverUptoRow : OpenClaim := { program := "ytcialcejmjggeaa", sum := "13884d4f70956af7c7e2ed0381ae51ab38d1b45bf5fa0a6e23ec754b330d39f5", func := "loop.example/g00062/laws.FnNeverOver", spec := "fnNeverOver", unfollowed := true, recurses := true, apart := false, narrowed := true }
def FnNeverOverUptoSaid : Prop := fnNeverOverUptoRow.holds Try.pinned (OpenSpec.upto fnNeverOverSpec)

/-- 'laws.FnExactPowerAt', WHERE WHAT IT READS IS OF BULK AT MOST 1048576: true; the input reads as it did. -/
def fnExactPowerAtUptoRow : OpenClaim := { program := "ytcialcejmjggeaa", sum := "13884d4f70956af7c7e2ed0381ae51ab38d1b45bf5fa0a6e23ec754b330d39f5", func := "loop.example/g00062/laws.FnExactPowerAt", spec := "fnExactPowerAt", apart := false, narrowed := true }
def FnExactPowerAtUptoSaid : Prop := fnExactPowerAtUptoRow.holds Try.pinned (OpenSpec.upto fnExactPowerAtSpec)

end Rows
end Go.Proofs.Ytcialcejmjggeaa
