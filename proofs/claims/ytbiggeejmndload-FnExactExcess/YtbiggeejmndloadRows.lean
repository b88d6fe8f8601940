/-
  No cell of these rows narrows 'for every input' (looked for: loops, veiled, ifaces, maps, wideKeys, modest, calm, conditions, laid).
  DERIVED. THE GIVEN ROWS OF THIS SEAT. 3 by the template 'for every input the law returns true; each argument reads behind the call as it read before'; 0 by the template 'total and deterministic' (their statements: YtbiggeejmndloadTotals.lean).
  GIVEN WITH THE SEED: the statements are not yours to turn. If you find one false, say at which input.
  Laid BY PROGRAM, IN A SANDBOX (cutbox-rows.mjs): the forced cells as the released guide's own fill.sh prints them over the translation 52b544dfacc92720… (all of the seat's roots in one cut). By AI agents, Wed Nov 11 2026. No macro, syntax, notation, axiom, sorry.
-/
import Derived.Test.YtbiggeejmndloadChecked
import GoSem.Claim
import GoSem.ClaimJoined
import GoSem.ClaimMapViews
import Derived.JoinedTies
import Derived.KernelRfl
namespace Go.Proofs.Ytbiggeejmndload
/- THE CELL 'sum', in the pinned program and in every row, IS THE sha256 OF THE DUMP (.gsa) THAT YtbiggeejmndloadProg.lean LOADS. Nothing in Lean hashes anything: it is a label: what it is worth is what the hold of that sum in a sandbox is worth. -/
noncomputable def Try.pinned : Pinned := { name := "ytbiggeejmndload", sum := "52b544dfacc9272062a318ce73e7bbbdaf07ed5f453ad3720887ec1c1d345d1a", checked := Try.checked }
namespace Rows
def none {H : Type} : Left H := { results := [], args := [] }

/-- 'laws.FnExactNeed': WHATEVER THE INPUT: true; the input reads as it did. -/
def fnExactNeedSpec : ChangeSpec := { name := "fnExactNeed", fn := fun _ => fun
  | [d] => { results := [.lit (.bool true)], args := [d] }
  | _ => none }
def fnExactNeedRow : OpenClaim := { program := "ytbiggeejmndload", sum := "52b544dfacc9272062a318ce73e7bbbdaf07ed5f453ad3720887ec1c1d345d1a", func := "loop.example/g00062/laws.FnExactNeed", spec := "fnExactNeed", apart := false }
def FnExactNeedSaid : Prop := fnExactNeedRow.holds Try.pinned (OpenSpec.ofChange fnExactNeedSpec)

/-- ITS FALSE NEIGHBOUR: 'it returns false'. Refute it at one input. -/
def fnExactNeedWrong : ChangeSpec := { name := "fnExactNeed", fn := fun _ => fun
  | [d] => { results := [.lit (.bool false)], args := [d] }
  | _ => none }
def FnExactNeedWrongFalsely : Prop := fnExactNeedRow.holds Try.pinned (OpenSpec.ofChange fnExactNeedWrong)

/-- 'laws.FnExactExcess': WHATEVER THE INPUT: true; the input reads as it did. -/
def fnExactExcessSpec : ChangeSpec := { name := "fnExactExcess", fn := fun _ => fun
  | [d1, d2] => { results := [.lit (.bool true)], args := [d1, d2] }
  | _ => none }
def fnExactExcessRow : OpenClaim := { program := "ytbiggeejmndload", sum := "52b544dfacc9272062a318ce73e7bbbdaf07ed5f453ad3720887ec1c1d345d1a", func := "loop.example/g00062/laws.FnExactExcess", spec := "fnExactExcess", apart := false }
def FnExactExcessSaid : Prop := fnExactExcessRow.holds Try.pinned (OpenSpec.ofChange fnExactExcessSpec)

/-- ITS FALSE NEIGHBOUR: 'it returns false'. Refute it at one input. -/
def fnExactExcessWrong : ChangeSpec := { name := "fnExactExcess", fn := fun _ => fun
  | [d1, d2] => { results := [.lit (.bool false)], args := [d1, d2] }
  | _ => none }
def FnExactExcessWrongFalsely : Prop := fnExactExcessRow.holds Try.pinned (OpenSpec.ofChange fnExactExcessWrong)

/-- 'laws.FnExactBalance': WHATEVER THE INPUT: true; the input reads as it did. -/
def fnExactBalanceSpec : ChangeSpec := { name := "fnExactBalance", fn := fun _ => fun
  | [d1, d2] => { results := [.lit (.bool true)], args := [d1, d2] }
  | _ => none }
def fnExactBalanceRow : OpenClaim := { program := "ytbiggeejmndload", sum := "52b544dfacc9272062a318ce73e7bbbdaf07ed5f453ad3720887ec1c1d345d1a", func := "loop.example/g00062/laws.FnExactBalance", spec := "fnExactBalance", apart := false }
def FnExactBalanceSaid : Prop := fnExactBalanceRow.holds Try.pinned (OpenSpec.ofChange fnExactBalanceSpec)

/-- ITS FALSE NEIGHBOUR: 'it returns false'. Refute it at one input. -/
def fnExactBalanceWrong : ChangeSpec := { name := "fnExactBalance", fn := fun _ => fun
  | [d1, d2] => { results := [.lit (.bool false)], args := [d1, d2] }
  | _ => none }
def FnExactBalanceWrongFalsely : Prop := fnExactBalanceRow.holds Try.pinned (OpenSpec.ofChange fnExactBalanceWrong)

/- THE SECOND FORM. 'bulk': how many values and letters a reading holds, each counted each time it is reached (what is shared counts as often as it is met; a slice's spare places count too). A statement '..UptoSaid' is the law's where the arguments, and the package variables that the reading takes, are together of bulk at most 1048576: NARROWER than '..Said'. Prove '..Said' where nothing that the law and all that it calls make is longer than what came in: it says more and counts as full. Else prove '..UptoSaid'. A law counts once. -/
mutual
def uptoBulk {H : Type} : DataW H → Nat
  | .lit (.string bytes) => bytes.length + 1
  | .lit _ => 1
  | .nil => 1
  | .ptr d => uptoBulk d + 1
  | .slice elems spare => uptoBulkAll elems + uptoBulkAll spare + 1
  | .agg parts => uptoBulkAll parts + 1
  | .iface _ d => uptoBulk d + 1
  | .map entries => uptoBulkEntries entries + 1
  | .held _ => 1
def uptoBulkAll {H : Type} : List (DataW H) → Nat
  | [] => 0
  | d :: r => uptoBulk d + uptoBulkAll r
def uptoBulkEntries {H : Type} : List (Lit × DataW H) → Nat
  | [] => 0
  | x :: r => uptoBulkEntry x + uptoBulkEntries r
def uptoBulkEntry {H : Type} : Lit × DataW H → Nat
  | (.string bytes, d) => bytes.length + uptoBulk d + 1
  | (_, d) => uptoBulk d + 1
 end
def uptoSmall : (H : Type) → List (DataW H) → Bool := fun _ ds => decide (uptoBulkAll ds ≤ 1048576)
def OpenSpec.upto (s : _root_.Go.ChangeSpec) : _root_.Go.OpenSpec := { _root_.Go.OpenSpec.ofChange s with cond := some uptoSmall }

/-- 'laws.FnExactNeed', WHERE WHAT IT READS IS OF BULK AT MOST 1048576: true; the input reads as it did. -/
def fnExactNeedUptoRow : OpenClaim := { program := "ytbiggeejmndload", sum := "52b544dfacc9272062a318ce73e7bbbdaf07ed5f453ad3720887ec1c1d345d1a", func := "loop.example/g00062/laws.FnExactNeed", spec := "fnExactNeed", apart := false, narrowed := true }
def FnExactNeedUptoSaid : Prop := fnExactNeedUptoRow.holds Try.pinned (OpenSpec.upto fnExactNeedSpec)

/-- 'laws.FnExactExcess', WHERE WHAT IT READS IS OF BULK AT MOST 1048576: true; the input reads as it did. -/
def fnExactExcessUptoRow : OpenClaim := { program := "ytbiggeejmndload", sum := "52b544dfacc9272062a318ce73e7bbbdaf07ed5f453ad3720887ec1c1d345d1a", func := "loop.example/g00062/laws.FnExactExcess", spec := "fnExactExcess", apart := false, narrowed := true }
def FnExactExcessUptoSaid : Prop := fnExactExcessUptoRow.holds Try.pinned (OpenSpec.upto fnExactExcessSpec)

/-- 'laws.FnExactBalance', WHERE WHAT IT READS IS OF BULK AT MOST 1048576: true; the input reads as it did. -/
def fnExactBalanceUptoRow : OpenClaim := { program := "ytbiggeejmndload", sum := "52b544dfacc9272062a318ce73e7bbbdaf07ed5f453ad3720887ec1c1d345d1a", func := "loop.example/g00062/laws.FnExactBalance", spec := "fnExactBalance", apart := false, narrowed := true }
def FnExactBalanceUptoSaid : Prop := fnExactBalanceUptoRow.holds Try.pinned (OpenSpec.upto fnExactBalanceSpec)

end Rows
end Go.Proofs.Ytbiggeejmndload
