/-
  No cell of these rows narrows 'for every input' (looked for: loops, veiled, ifaces, maps, wideKeys, modest, calm, conditions, laid).
  DERIVED. THE GIVEN ROWS OF THIS SEAT. 6 by the template 'for every input the law returns true; each argument reads behind the call as it read before'; 0 by the template 'total and deterministic' (their statements: YtjgjddlfciaeeaaTotals.lean).
  GIVEN WITH THE SEED: the statements are not yours to turn. If you find one false, say at which input.
  Laid BY PROGRAM, IN A SANDBOX (cutbox-rows.mjs): the forced cells as the released guide's own fill.sh prints them over the translation 0edb1c393aab0225… (all of the seat's roots in one cut). By AI agents, Wed Nov 11 2026. No macro, syntax, notation, axiom, sorry.
-/
import Derived.Test.YtjgjddlfciaeeaaChecked
import GoSem.Claim
import GoSem.ClaimJoined
import GoSem.ClaimMapViews
import Derived.JoinedTies
import Derived.KernelRfl
namespace Go.Proofs.Ytjgjddlfciaeeaa
/- THE CELL 'sum', in the pinned program and in every row, IS THE sha256 OF THE DUMP (.gsa) THAT YtjgjddlfciaeeaaProg.lean LOADS. Nothing in Lean hashes anything: it is a label: what it is worth is what the hold of that sum in a sandbox is worth. -/
noncomputable def Try.pinned : Pinned := { name := "ytjgjddlfciaeeaa", sum := "0edb1c393aab02259f13e0ae8503d3c0fd45f984e1fe34451f3d9808ead5a41b", checked := Try.checked }
namespace Rows
def none {H : Type} : Left H := { results := [], args := [] }

/-- 'laws.FnPairs': WHATEVER THE INPUT: true; the input reads as it did. -/
def fnPairsSpec : ChangeSpec := { name := "fnPairs", fn := fun _ => fun
  | [d] => { results := [.lit (.bool true)], args := [d] }
  | _ => none }
def fnPairsRow : OpenClaim := { program := "ytjgjddlfciaeeaa", sum := "0edb1c393aab02259f13e0ae8503d3c0fd45f984e1fe34451f3d9808ead5a41b", func := "loop.example/g00062/laws.FnPairs", spec := "fnPairs", inPlace := ["math.Float64bits"], apart := false }
def FnPairsSaid : Prop := fnPairsRow.holds Try.pinned (OpenSpec.ofChange fnPairsSpec)

/-- ITS FALSE NEIGHBOUR: 'it returns false'. Refute it at one input. -/
def fnPairsWrong : ChangeSpec := { name := "fnPairs", fn := fun _ => fun
  | [d] => { results := [.lit (.bool false)], args := [d] }
  | _ => none }
def FnPairsWrongFalsely : Prop := fnPairsRow.holds Try.pinned (OpenSpec.ofChange fnPairsWrong)

/-- 'laws.FnExactAddPair': WHATEVER THE INPUT: true; the input reads as it did. -/
def fnExactAddPairSpec : ChangeSpec := { name := "fnExactAddPair", fn := fun _ => fun
  | [d1, d2] => { results := [.lit (.bool true)], args := [d1, d2] }
  | _ => none }
def fnExactAddPairRow : OpenClaim := { program := "ytjgjddlfciaeeaa", sum := "0edb1c393aab02259f13e0ae8503d3c0fd45f984e1fe34451f3d9808ead5a41b", func := "loop.example/g00062/laws.FnExactAddPair", spec := "fnExactAddPair", apart := false }
def FnExactAddPairSaid : Prop := fnExactAddPairRow.holds Try.pinned (OpenSpec.ofChange fnExactAddPairSpec)

/-- ITS FALSE NEIGHBOUR: 'it returns false'. Refute it at one input. -/
def fnExactAddPairWrong : ChangeSpec := { name := "fnExactAddPair", fn := fun _ => fun
  | [d1, d2] => { results := [.lit (.bool false)], args := [d1, d2] }
  | _ => none }
def FnExactAddPairWrongFalsely : Prop := fnExactAddPairRow.holds Try.pinned (OpenSpec.ofChange fnExactAddPairWrong)

/-- 'laws.FnExactSubPair': WHATEVER THE INPUT: true; the input reads as it did. -/
def fnExactSubPairSpec : ChangeSpec := { name := "fnExactSubPair", fn := fun _ => fun
  | [d1, d2] => { results := [.lit (.bool true)], args := [d1, d2] }
  | _ => none }
def fnExactSubPairRow : OpenClaim := { program := "ytjgjddlfciaeeaa", sum := "0edb1c393aab02259f13e0ae8503d3c0fd45f984e1fe34451f3d9808ead5a41b", func := "loop.example/g00062/laws.FnExactSubPair", spec := "fnExactSubPair", apart := false }
def FnExactSubPairSaid : Prop := fnExactSubPairRow.holds Try.pinned (OpenSpec.ofChange fnExactSubPairSpec)

/-- ITS FALSE NEIGHBOUR: 'it returns false'. Refute it at one input. -/
def fnExactSubPairWrong : ChangeSpec := { name := "fnExactSubPair", fn := fun _ => fun
  | [d1, d2] => { results := [.lit (.bool false)], args := [d1, d2] }
  | _ => none }
def FnExactSubPairWrongFalsely : Prop := fnExactSubPairRow.holds Try.pinned (OpenSpec.ofChange fnExactSubPairWrong)

/-- 'laws.FnExactMulPair': WHATEVER THE INPUT: true; the input reads as it did. -/
def fnExactMulPairSpec : ChangeSpec := { name := "fnExactMulPair", fn := fun _ => fun
  | [d1, d2] => { results := [.lit (.bool true)], args := [d1, d2] }
  | _ => none }
def fnExactMulPairRow : OpenClaim := { program := "ytjgjddlfciaeeaa", sum := "0edb1c393aab02259f13e0ae8503d3c0fd45f984e1fe34451f3d9808ead5a41b", func := "loop.example/g00062/laws.FnExactMulPair", spec := "fnExactMulPair", apart := false }
def FnExactMulPairSaid : Prop := fnExactMulPairRow.holds Try.pinned (OpenSpec.ofChange fnExactMulPairSpec)

/-- ITS FALSE NEIGHBOUR: 'it returns false'. Refute it at one input. -/
def fnExactMulPairWrong : ChangeSpec := { name := "fnExactMulPair", fn := fun _ => fun
  | [d1, d2] => { results := [.lit (.bool false)], args := [d1, d2] }
  | _ => none }
def FnExactMulPairWrongFalsely : Prop := fnExactMulPairRow.holds Try.pinned (OpenSpec.ofChange fnExactMulPairWrong)

/-- 'laws.FnExactSamePair': WHATEVER THE INPUT: true; the input reads as it did. -/
def fnExactSamePairSpec : ChangeSpec := { name := "fnExactSamePair", fn := fun _ => fun
  | [d1, d2] => { results := [.lit (.bool true)], args := [d1, d2] }
  | _ => none }
def fnExactSamePairRow : OpenClaim := { program := "ytjgjddlfciaeeaa", sum := "0edb1c393aab02259f13e0ae8503d3c0fd45f984e1fe34451f3d9808ead5a41b", func := "loop.example/g00062/laws.FnExactSamePair", spec := "fnExactSamePair", inPlace := ["math.Float64bits"], apart := false }
def FnExactSamePairSaid : Prop := fnExactSamePairRow.holds Try.pinned (OpenSpec.ofChange fnExactSamePairSpec)

/-- ITS FALSE NEIGHBOUR: 'it returns false'. Refute it at one input. -/
def fnExactSamePairWrong : ChangeSpec := { name := "fnExactSamePair", fn := fun _ => fun
  | [d1, d2] => { results := [.lit (.bool false)], args := [d1, d2] }
  | _ => none }
def FnExactSamePairWrongFalsely : Prop := fnExactSamePairRow.holds Try.pinned (OpenSpec.ofChange fnExactSamePairWrong)

/-- 'laws.FnExactPower': WHATEVER THE INPUT: true; the input reads as it did. -/
def fnExactPowerSpec : ChangeSpec := { name := "fnExactPower", fn := fun _ => fun
  | [d1, d2] => { results := [.lit (.bool true)], args := [d1, d2] }
  | _ => none }
def fnExactPowerRow : OpenClaim := { program := "ytjgjddlfciaeeaa", sum := "0edb1c393aab02259f13e0ae8503d3c0fd45f984e1fe34451f3d9808ead5a41b", func := "loop.example/g00062/laws.FnExactPower", spec := "fnExactPower", apart := false }
def FnExactPowerSaid : Prop := fnExactPowerRow.holds Try.pinned (OpenSpec.ofChange fnExactPowerSpec)

/-- ITS FALSE NEIGHBOUR: 'it returns false'. Refute it at one input. -/
def fnExactPowerWrong : ChangeSpec := { name := "fnExactPower", fn := fun _ => fun
  | [d1, d2] => { results := [.lit (.bool false)], args := [d1, d2] }
  | _ => none }
def FnExactPowerWrongFalsely : Prop := fnExactPowerRow.holds Try.pinned (OpenSpec.ofChange fnExactPowerWrong)

/- THE SECOND FORM. 'bulk': how many values and letters a reading holds, each counted each time it is reached (what is shared counts as often as it is met; a slice's spare places count too). A statement '..UptoSaid' is the law's where the arguments, and the package variables that the reading takes, are together of bulk at most 1048576: NARROWER than '..Said'. Prove '..Said' where nothing that the law and all that it calls make is longer than what came in: it says more and counts as full. Else prove '..UptoSaid'. A law counts once. -/
mutual
def uptoBulk {H : Type} : DataW H → Nat
  | .lit (.string bytes) => bytes.length + 1
  | .lit _ => 1
  | .nil => 1
  | .ptr d => uptoBulk d + 1
  | .slice elems spare => uptoBulkAll elems + uptoBulkAll spare + 1
  | .agg parts => uptoBulkAll parts + 1
  | .iface _ d => uptoBulk d + 1
  | .map entries => uptoBulkEntries entries + 1
  | .held _ => 1
def uptoBulkAll {H : Type} : List (DataW H) → Nat
  | [] => 0
  | d :: r => uptoBulk d + uptoBulkAll r
def uptoBulkEntries {H : Type} : List (Lit × DataW H) → Nat
  | [] => 0
  | x :: r => uptoBulkEntry x + uptoBulkEntries r
def uptoBulkEntry {H : Type} : Lit × DataW H → Nat
  | (.string bytes, d) => bytes.length + uptoBulk d + 1
  | (_, d) => uptoBulk d + 1
 end
def uptoSmall : (H : Type) → List (DataW H) → Bool := fun _ ds => decide (uptoBulkAll ds ≤ 1048576)
def OpenSpec.upto (s : _root_.Go.ChangeSpec) : _root_.Go.OpenSpec := { _root_.Go.OpenSpec.ofChange s with cond := some uptoSmall }

/-- 'laws.FnPairs', WHERE WHAT IT READS IS OF BULK AT MOST 1048576: true; the input reads as it did. -/
def fnPairsUptoRow : OpenClaim := { program := "ytjgjddlfciaeeaa", sum := "0edb1c393aab02259f13e0ae8503d3c0fd45f984e1fe34451f3d9808ead5a41b", func := "loop.example/g00062/laws.FnPairs", spec := "fnPairs", inPlace := ["math.Float64bits"], apart := false, narrowed := true }
def FnPairsUptoSaid : Prop := fnPairsUptoRow.holds Try.pinned (OpenSpec.upto fnPairsSpec)

/-- 'laws.FnExactAddPair', WHERE WHAT IT READS IS OF BULK AT MOST 1048576: true; the input reads as it did. -/
def fnExactAddPairUptoRow : OpenClaim := { program := "ytjgjddlfciaeeaa", sum := "0edb1c393aab02259f13e0ae8503d3c0fd45f984e1fe34451f3d9808ead5a41b", func := "loop.example/g00062/laws.FnExactAddPair", spec := "fnExactAddPair", apart := false, narrowed := true }
def FnExactAddPairUptoSaid : Prop := fnExactAddPairUptoRow.holds Try.pinned (OpenSpec.upto fnExactAddPairSpec)

/-- 'laws.FnExactSubPair', WHERE WHAT IT READS IS OF BULK AT MOST 1048576: true; the input reads as it did. -/
def fnExactSubPairUptoRow : OpenClaim := { program := "ytjgjddlfciaeeaa", sum := "0edb1c393aab02259f13e0ae8503d3c0fd45f984e1fe34451f3d9808ead5a41b", func := "loop.example/g00062/laws.FnExactSubPair", spec := "fnExactSubPair", apart := false, narrowed := true }
def FnExactSubPairUptoSaid : Prop := fnExactSubPairUptoRow.holds Try.pinned (OpenSpec.upto fnExactSubPairSpec)

/-- 'laws.FnExactMulPair', WHERE WHAT IT READS IS OF BULK AT MOST 1048576: true; the input reads as it did. -/
def fnExactMulPairUptoRow : OpenClaim := { program := "ytjgjddlfciaeeaa", sum := "0edb1c393aab02259f13e0ae8503d3c0fd45f984e1fe34451f3d9808ead5a41b", func := "loop.example/g00062/laws.FnExactMulPair", spec := "fnExactMulPair", apart := false, narrowed := true }
def FnExactMulPairUptoSaid : Prop := fnExactMulPairUptoRow.holds Try.pinned (OpenSpec.upto fnExactMulPairSpec)

/-- 'laws.FnExactSamePair', WHERE WHAT IT READS IS OF BULK AT MOST 1048576: true; the input reads as it did. -/
def fnExactSamePairUptoRow : OpenClaim := { program := "ytjgjddlfciaeeaa", sum := "0edb1c393aab02259f13e0ae8503d3c0fd45f984e1fe34451f3d9808ead5a41b", func := "loop.example/g00062/laws.FnExactSamePair", spec := "fnExactSamePair", inPlace := ["math.Float64bits"], apart := false, narrowed := true }
def FnExactSamePairUptoSaid : Prop := fnExactSamePairUptoRow.holds Try.pinned (OpenSpec.upto fnExactSamePairSpec)

/-- 'laws.FnExactPower', WHERE WHAT IT READS IS OF BULK AT MOST 1048576: true; the input reads as it did. -/
def fnExactPowerUptoRow : OpenClaim := { program := "ytjgjddlfciaeeaa", sum := "0edb1c393aab02259f13e0ae8503d3c0fd45f984e1fe34451f3d9808ead5a41b", func := "loop.example/g00062/laws.FnExactPower", spec := "fnExactPower", apart := false, narrowed := true }
def FnExactPowerUptoSaid : Prop := fnExactPowerUptoRow.holds Try.pinned (OpenSpec.upto fnExactPowerSpec)

end Rows
end Go.Proofs.Ytjgjddlfciaeeaa
