/-
  No cell of these rows narrows 'for every input' (looked for: loops, veiled, ifaces, maps, wideKeys, modest, calm, conditions, laid).
  DERIVED. THE GIVEN ROWS OF THIS SEAT. 3 by the template 'for every input the law returns true; each argument reads behind the call as it read before'; 0 by the template 'total and deterministic' (their statements: YtjomflmmlmfipaaTotals.lean).
  GIVEN WITH THE SEED: the statements are not yours to turn. If you find one false, say at which input.
  Laid BY PROGRAM, IN A SANDBOX (cutbox-rows.mjs): the forced cells as the released guide's own fill.sh prints them over the translation b0c109072e33a9b4… (all of the seat's roots in one cut). By AI agents, Wed Nov 11 2026. No macro, syntax, notation, axiom, sorry.
-/
import Derived.Test.YtjomflmmlmfipaaChecked
import GoSem.Claim
import GoSem.ClaimJoined
import GoSem.ClaimMapViews
import Derived.JoinedTies
import Derived.KernelRfl
namespace Go.Proofs.Ytjomflmmlmfipaa
/- THE CELL 'sum', in the pinned program and in every row, IS THE sha256 OF THE DUMP (.gsa) THAT YtjomflmmlmfipaaProg.lean LOADS. Nothing in Lean hashes anything: it is a label: what it is worth is what the hold of that sum in a sandbox is worth. -/
noncomputable def Try.pinned : Pinned := { name := "ytjomflmmlmfipaa", sum := "b0c109072e33a9b489469b6b42b81bf6f96d0c196b1ff39bc69c71c17ee1c42c", checked := Try.checked }
namespace Rows
def none {H : Type} : Left H := { results := [], args := [] }

/-- 'laws.FnExactVote': WHATEVER THE INPUT: true; the input reads as it did. -/
def fnExactVoteSpec : ChangeSpec := { name := "fnExactVote", fn := fun _ => fun
  | [d1, d2] => { results := [.lit (.bool true)], args := [d1, d2] }
  | _ => none }
def fnExactVoteRow : OpenClaim := { program := "ytjomflmmlmfipaa", sum := "b0c109072e33a9b489469b6b42b81bf6f96d0c196b1ff39bc69c71c17ee1c42c", func := "loop.example/g00062/laws.FnExactVote", spec := "fnExactVote", apart := false }
def FnExactVoteSaid : Prop := fnExactVoteRow.holds Try.pinned (OpenSpec.ofChange fnExactVoteSpec)

/-- ITS FALSE NEIGHBOUR: 'it returns false'. Refute it at one input. -/
def fnExactVoteWrong : ChangeSpec := { name := "fnExactVote", fn := fun _ => fun
  | [d1, d2] => { results := [.lit (.bool false)], args := [d1, d2] }
  | _ => none }
def FnExactVoteWrongFalsely : Prop := fnExactVoteRow.holds Try.pinned (OpenSpec.ofChange fnExactVoteWrong)

/-- 'laws.FnExactSays': WHATEVER THE INPUT: true; the input reads as it did. -/
def fnExactSaysSpec : ChangeSpec := { name := "fnExactSays", fn := fun _ => fun
  | [d1, d2, d3] => { results := [.lit (.bool true)], args := [d1, d2, d3] }
  | _ => none }
def fnExactSaysRow : OpenClaim := { program := "ytjomflmmlmfipaa", sum := "b0c109072e33a9b489469b6b42b81bf6f96d0c196b1ff39bc69c71c17ee1c42c", func := "loop.example/g00062/laws.FnExactSays", spec := "fnExactSays", inPlace := ["math.Float64bits", "math.Float64frombits"], apart := false }
def FnExactSaysSaid : Prop := fnExactSaysRow.holds Try.pinned (OpenSpec.ofChange fnExactSaysSpec)

/-- ITS FALSE NEIGHBOUR: 'it returns false'. Refute it at one input. -/
def fnExactSaysWrong : ChangeSpec := { name := "fnExactSays", fn := fun _ => fun
  | [d1, d2, d3] => { results := [.lit (.bool false)], args := [d1, d2, d3] }
  | _ => none }
def FnExactSaysWrongFalsely : Prop := fnExactSaysRow.holds Try.pinned (OpenSpec.ofChange fnExactSaysWrong)

/-- 'laws.FnExactNewGuard': WHATEVER THE INPUT: true; the input reads as it did. -/
def fnExactNewGuardSpec : ChangeSpec := { name := "fnExactNewGuard", fn := fun _ => fun
  | [d] => { results := [.lit (.bool true)], args := [d] }
  | _ => none }
def fnExactNewGuardRow : OpenClaim := { program := "ytjomflmmlmfipaa", sum := "b0c109072e33a9b489469b6b42b81bf6f96d0c196b1ff39bc69c71c17ee1c42c", func := "loop.example/g00062/laws.FnExactNewGuard", spec := "fnExactNewGuard", apart := false }
def FnExactNewGuardSaid : Prop := fnExactNewGuardRow.holds Try.pinned (OpenSpec.ofChange fnExactNewGuardSpec)

/-- ITS FALSE NEIGHBOUR: 'it returns false'. Refute it at one input. -/
def fnExactNewGuardWrong : ChangeSpec := { name := "fnExactNewGuard", fn := fun _ => fun
  | [d] => { results := [.lit (.bool false)], args := [d] }
  | _ => none }
def FnExactNewGuardWrongFalsely : Prop := fnExactNewGuardRow.holds Try.pinned (OpenSpec.ofChange fnExactNewGuardWrong)

/- THE SECOND FORM. 'bulk': how many values and letters a reading holds, each counted each time it is reached (what is shared counts as often as it is met; a slice's spare places count too). A statement '..UptoSaid' is the law's where the arguments, and the package variables that the reading takes, are together of bulk at most 1048576: NARROWER than '..Said'. Prove '..Said' where nothing that the law and all that it calls make is longer than what came in: it says more and counts as full. Else prove '..UptoSaid'. A law counts once. -/
mutual
def uptoBulk {H : Type} : DataW H → Nat
  | .lit (.string bytes) => bytes.length + 1
  | .lit _ => 1
  | .nil => 1
  | .ptr d => uptoBulk d + 1
  | .slice elems spare => uptoBulkAll elems + uptoBulkAll spare + 1
  | .agg parts => uptoBulkAll parts + 1
  | .iface _ d => uptoBulk d + 1
  | .map entries => uptoBulkEntries entries + 1
  | .held _ => 1
def uptoBulkAll {H : Type} : List (DataW H) → Nat
  | [] => 0
  | d :: r => uptoBulk d + uptoBulkAll r
def uptoBulkEntries {H : Type} : List (Lit × DataW H) → Nat
  | [] => 0
  | x :: r => uptoBulkEntry x + uptoBulkEntries r
def uptoBulkEntry {H : Type} : Lit × DataW H → Nat
  | (.string bytes, d) => bytes.length + uptoBulk d + 1
  | (_, d) => uptoBulk d + 1
 end
def uptoSmall : (H : Type) → List (DataW H) → Bool := fun _ ds => decide (uptoBulkAll ds ≤ 1048576)
def OpenSpec.upto (s : _root_.Go.ChangeSpec) : _root_.Go.OpenSpec := { _root_.Go.OpenSpec.ofChange s with cond := some uptoSmall }

/-- 'laws.FnExactVote', WHERE WHAT IT READS IS OF BULK AT MOST 1048576: true; the input reads as it did. -/
def fnExactVoteUptoRow : OpenClaim := { program := "ytjomflmmlmfipaa", sum := "b0c109072e33a9b489469b6b42b81bf6f96d0c196b1ff39bc69c71c17ee1c42c", func := "loop.example/g00062/laws.FnExactVote", spec := "fnExactVote", apart := false, narrowed := true }
def FnExactVoteUptoSaid : Prop := fnExactVoteUptoRow.holds Try.pinned (OpenSpec.upto fnExactVoteSpec)

/-- 'laws.FnExactSays', WHERE WHAT IT READS IS OF BULK AT MOST 1048576: true; the input reads as it did. -/
def fnExactSaysUptoRow : OpenClaim := { program := "ytjomflmmlmfipaa", sum := "b0c109072e33a9b489469b6b42b81bf6f96d0c196b1ff39bc69c71c17ee1c42c", func := "loop.example/g00062/laws.FnExactSays", spec := "fnExactSays", inPlace := ["math.Float64bits", "math.Float64frombits"], apart := false, narrowed := true }
def FnExactSaysUptoSaid : Prop := fnExactSaysUptoRow.holds Try.pinned (OpenSpec.upto fnExactSaysSpec)

/-- 'laws.FnExactNewGuard', WHERE WHAT IT READS IS OF BULK AT MOST 1048576: true; the input reads as it did. -/
def fnExactNewGuardUptoRow : OpenClaim := { program := "ytjomflmmlmfipaa", sum := "b0c109072e33a9b489469b6b42b81bf6f96d0c196b1ff39bc69c71c17ee1c42c", func := "loop.example/g00062/laws.FnExactNewGuard", spec := "fnExactNewGuard", apart := false, narrowed := true }
def FnExactNewGuardUptoSaid : Prop := fnExactNewGuardUptoRow.holds Try.pinned (OpenSpec.upto fnExactNewGuardSpec)

end Rows
end Go.Proofs.Ytjomflmmlmfipaa
