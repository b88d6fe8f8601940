/-
  No cell of these rows narrows 'for every input' (looked for: loops, veiled, ifaces, maps, wideKeys, modest, calm, conditions, laid).
  DERIVED. THE GIVEN ROWS OF THIS SEAT. 6 by the template 'for every input the law returns true; each argument reads behind the call as it read before'; 0 by the template 'total and deterministic' (their statements: YtikcfpjfcpbfcaaTotals.lean).
  GIVEN WITH THE SEED: the statements are not yours to turn. If you find one false, say at which input.
  Laid BY PROGRAM, IN A SANDBOX (cutbox-rows.mjs): the forced cells as the released guide's own fill.sh prints them over the translation 7ecff98a45e6dc4c… (all of the seat's roots in one cut). By AI agents, Wed Nov 11 2026. No macro, syntax, notation, axiom, sorry.
-/
import Derived.Test.YtikcfpjfcpbfcaaChecked
import GoSem.Claim
import GoSem.ClaimJoined
import GoSem.ClaimMapViews
import Derived.JoinedTies
import Derived.KernelRfl
namespace Go.Proofs.Ytikcfpjfcpbfcaa
/- THE CELL 'sum', in the pinned program and in every row, IS THE sha256 OF THE DUMP (.gsa) THAT YtikcfpjfcpbfcaaProg.lean LOADS. Nothing in Lean hashes anything: it is a label: what it is worth is what the hold of that sum in a sandbox is worth. -/
noncomputable def Try.pinned : Pinned := { name := "ytikcfpjfcpbfcaa", sum := "7ecff98a45e6dc4c299c8efa744e0064c3dd7d442cc9f459ad5fdff7c14e63f6", checked := Try.checked }
namespace Rows
def none {H : Type} : Left H := { results := [], args := [] }

/-- 'laws.FnExactGrant': WHATEVER THE INPUT: true; the input reads as it did. -/
def fnExactGrantSpec : ChangeSpec := { name := "fnExactGrant", fn := fun _ => fun
  | [d1, d2, d3] => { results := [.lit (.bool true)], args := [d1, d2, d3] }
  | _ => none }
def fnExactGrantRow : OpenClaim := { program := "ytikcfpjfcpbfcaa", sum := "7ecff98a45e6dc4c299c8efa744e0064c3dd7d442cc9f459ad5fdff7c14e63f6", func := "loop.example/g00062/laws.FnExactGrant", spec := "fnExactGrant", inPlace := ["slices.overlaps[loop.example/g00062/impl.Permit]"], plainKeys := false, apart := false }
def FnExactGrantSaid : Prop := fnExactGrantRow.holds Try.pinned (OpenSpec.ofChange fnExactGrantSpec)

/-- ITS FALSE NEIGHBOUR: 'it returns false'. Refute it at one input. -/
def fnExactGrantWrong : ChangeSpec := { name := "fnExactGrant", fn := fun _ => fun
  | [d1, d2, d3] => { results := [.lit (.bool false)], args := [d1, d2, d3] }
  | _ => none }
def FnExactGrantWrongFalsely : Prop := fnExactGrantRow.holds Try.pinned (OpenSpec.ofChange fnExactGrantWrong)

/-- 'laws.FnExactGiveBack': WHATEVER THE INPUT: true; the input reads as it did. -/
def fnExactGiveBackSpec : ChangeSpec := { name := "fnExactGiveBack", fn := fun _ => fun
  | [d1, d2, d3] => { results := [.lit (.bool true)], args := [d1, d2, d3] }
  | _ => none }
def fnExactGiveBackRow : OpenClaim := { program := "ytikcfpjfcpbfcaa", sum := "7ecff98a45e6dc4c299c8efa744e0064c3dd7d442cc9f459ad5fdff7c14e63f6", func := "loop.example/g00062/laws.FnExactGiveBack", spec := "fnExactGiveBack", plainKeys := false, apart := false }
def FnExactGiveBackSaid : Prop := fnExactGiveBackRow.holds Try.pinned (OpenSpec.ofChange fnExactGiveBackSpec)

/-- ITS FALSE NEIGHBOUR: 'it returns false'. Refute it at one input. -/
def fnExactGiveBackWrong : ChangeSpec := { name := "fnExactGiveBack", fn := fun _ => fun
  | [d1, d2, d3] => { results := [.lit (.bool false)], args := [d1, d2, d3] }
  | _ => none }
def FnExactGiveBackWrongFalsely : Prop := fnExactGiveBackRow.holds Try.pinned (OpenSpec.ofChange fnExactGiveBackWrong)

/-- 'laws.FnExactTags': WHATEVER THE INPUT: true; the input reads as it did. -/
def fnExactTagsSpec : ChangeSpec := { name := "fnExactTags", fn := fun _ => fun
  | [d1, d2] => { results := [.lit (.bool true)], args := [d1, d2] }
  | _ => none }
def fnExactTagsRow : OpenClaim := { program := "ytikcfpjfcpbfcaa", sum := "7ecff98a45e6dc4c299c8efa744e0064c3dd7d442cc9f459ad5fdff7c14e63f6", func := "loop.example/g00062/laws.FnExactTags", spec := "fnExactTags", plainKeys := false, apart := false }
def FnExactTagsSaid : Prop := fnExactTagsRow.holds Try.pinned (OpenSpec.ofChange fnExactTagsSpec)

/-- ITS FALSE NEIGHBOUR: 'it returns false'. Refute it at one input. -/
def fnExactTagsWrong : ChangeSpec := { name := "fnExactTags", fn := fun _ => fun
  | [d1, d2] => { results := [.lit (.bool false)], args := [d1, d2] }
  | _ => none }
def FnExactTagsWrongFalsely : Prop := fnExactTagsRow.holds Try.pinned (OpenSpec.ofChange fnExactTagsWrong)

/-- 'laws.FnExactFewest': WHATEVER THE INPUT: true; the input reads as it did. -/
def fnExactFewestSpec : ChangeSpec := { name := "fnExactFewest", fn := fun _ => fun
  | [d1, d2] => { results := [.lit (.bool true)], args := [d1, d2] }
  | _ => none }
def fnExactFewestRow : OpenClaim := { program := "ytikcfpjfcpbfcaa", sum := "7ecff98a45e6dc4c299c8efa744e0064c3dd7d442cc9f459ad5fdff7c14e63f6", func := "loop.example/g00062/laws.FnExactFewest", spec := "fnExactFewest", recurses := true, plainKeys := false, apart := false }
def FnExactFewestSaid : Prop := fnExactFewestRow.holds Try.pinned (OpenSpec.ofChange fnExactFewestSpec)

/-- ITS FALSE NEIGHBOUR: 'it returns false'. Refute it at one input. -/
def fnExactFewestWrong : ChangeSpec := { name := "fnExactFewest", fn := fun _ => fun
  | [d1, d2] => { results := [.lit (.bool false)], args := [d1, d2] }
  | _ => none }
def FnExactFewestWrongFalsely : Prop := fnExactFewestRow.holds Try.pinned (OpenSpec.ofChange fnExactFewestWrong)

/-- 'laws.FnFewest': WHATEVER THE INPUT: true; the input reads as it did. -/
def fnFewestSpec : ChangeSpec := { name := "fnFewest", fn := fun _ => fun
  | [d] => { results := [.lit (.bool true)], args := [d] }
  | _ => none }
def fnFewestRow : OpenClaim := { program := "ytikcfpjfcpbfcaa", sum := "7ecff98a45e6dc4c299c8efa744e0064c3dd7d442cc9f459ad5fdff7c14e63f6", func := "loop.example/g00062/laws.FnFewest", spec := "fnFewest", inPlace := ["slices.overlaps[loop.example/g00062/impl.Permit]"], recurses := true, plainKeys := false, apart := false }
def FnFewestSaid : Prop := fnFewestRow.holds Try.pinned (OpenSpec.ofChange fnFewestSpec)

/-- ITS FALSE NEIGHBOUR: 'it returns false'. Refute it at one input. -/
def fnFewestWrong : ChangeSpec := { name := "fnFewest", fn := fun _ => fun
  | [d] => { results := [.lit (.bool false)], args := [d] }
  | _ => none }
def FnFewestWrongFalsely : Prop := fnFewestRow.holds Try.pinned (OpenSpec.ofChange fnFewestWrong)

/-- 'laws.FnPermits': WHATEVER THE INPUT: true; the input reads as it did. -/
def fnPermitsSpec : ChangeSpec := { name := "fnPermits", fn := fun _ => fun
  | [d] => { results := [.lit (.bool true)], args := [d] }
  | _ => none }
def fnPermitsRow : OpenClaim := { program := "ytikcfpjfcpbfcaa", sum := "7ecff98a45e6dc4c299c8efa744e0064c3dd7d442cc9f459ad5fdff7c14e63f6", func := "loop.example/g00062/laws.FnPermits", spec := "fnPermits", inPlace := ["slices.overlaps[loop.example/g00062/impl.Permit]"], recurses := true, plainKeys := false, apart := false }
def FnPermitsSaid : Prop := fnPermitsRow.holds Try.pinned (OpenSpec.ofChange fnPermitsSpec)

/-- ITS FALSE NEIGHBOUR: 'it returns false'. Refute it at one input. -/
def fnPermitsWrong : ChangeSpec := { name := "fnPermits", fn := fun _ => fun
  | [d] => { results := [.lit (.bool false)], args := [d] }
  | _ => none }
def FnPermitsWrongFalsely : Prop := fnPermitsRow.holds Try.pinned (OpenSpec.ofChange fnPermitsWrong)

/- THE SECOND FORM. 'bulk': how many values and letters a reading holds, each counted each time it is reached (what is shared counts as often as it is met; a slice's spare places count too). A statement '..UptoSaid' is the law's where the arguments, and the package variables that the reading takes, are together of bulk at most 1048576: NARROWER than '..Said'. Prove '..Said' where nothing that the law and all that it calls make is longer than what came in: it says more and counts as full. Else prove '..UptoSaid'. A law counts once. -/
mutual
def uptoBulk {H : Type} : DataW H → Nat
  | .lit (.string bytes) => bytes.length + 1
  | .lit _ => 1
  | .nil => 1
  | .ptr d => uptoBulk d + 1
  | .slice elems spare => uptoBulkAll elems + uptoBulkAll spare + 1
  | .agg parts => uptoBulkAll parts + 1
  | .iface _ d => uptoBulk d + 1
  | .map entries => uptoBulkEntries entries + 1
  | .held _ => 1
def uptoBulkAll {H : Type} : List (DataW H) → Nat
  | [] => 0
  | d :: r => uptoBulk d + uptoBulkAll r
def uptoBulkEntries {H : Type} : List (Lit × DataW H) → Nat
  | [] => 0
  | x :: r => uptoBulkEntry x + uptoBulkEntries r
def uptoBulkEntry {H : Type} : Lit × DataW H → Nat
  | (.string bytes, d) => bytes.length + uptoBulk d + 1
  | (_, d) => uptoBulk d + 1
 end
def uptoSmall : (H : Type) → List (DataW H) → Bool := fun _ ds => decide (uptoBulkAll ds ≤ 1048576)
def OpenSpec.upto (s : _root_.Go.ChangeSpec) : _root_.Go.OpenSpec := { _root_.Go.OpenSpec.ofChange s with cond := some uptoSmall }

/-- 'laws.FnExactGrant', WHERE WHAT IT READS IS OF BULK AT MOST 1048576: true; the input reads as it did. -/
def fnExactGrantUptoRow : OpenClaim := { program := "ytikcfpjfcpbfcaa", sum := "7ecff98a45e6dc4c299c8efa744e0064c3dd7d442cc9f459ad5fdff7c14e63f6", func := "loop.example/g00062/laws.FnExactGrant", spec := "fnExactGrant", inPlace := ["slices.overlaps[loop.example/g00062/impl.Permit]"], plainKeys := false, apart := false, narrowed := true }
def FnExactGrantUptoSaid : Prop := fnExactGrantUptoRow.holds Try.pinned (OpenSpec.upto fnExactGrantSpec)

/-- 'laws.FnExactGiveBack', WHERE WHAT IT READS IS OF BULK AT MOST 1048576: true; the input reads as it did. -/
def fnExactGiveBackUptoRow : OpenClaim := { program := "ytikcfpjfcpbfcaa", sum := "7ecff98a45e6dc4c299c8efa744e0064c3dd7d442cc9f459ad5fdff7c14e63f6", func := "loop.example/g00062/laws.FnExactGiveBack", spec := "fnExactGiveBack", plainKeys := false, apart := false, narrowed := true }
def FnExactGiveBackUptoSaid : Prop := fnExactGiveBackUptoRow.holds Try.pinned (OpenSpec.upto fnExactGiveBackSpec)

/-- 'laws.FnExactTags', WHERE WHAT IT READS IS OF BULK AT MOST 1048576: true; the input reads as it did. -/
def fnExactTagsUptoRow : OpenClaim := { program := "ytikcfpjfcpbfcaa", sum := "7ecff98a45e6dc4c299c8efa744e0064c3dd7d442cc9f459ad5fdff7c14e63f6", func := "loop.example/g00062/laws.FnExactTags", spec := "fnExactTags", plainKeys := false, apart := false, narrowed := true }
def FnExactTagsUptoSaid : Prop := fnExactTagsUptoRow.holds Try.pinned (OpenSpec.upto fnExactTagsSpec)

/-- 'laws.FnExactFewest', WHERE WHAT IT READS IS OF BULK AT MOST 1048576: true; the input reads as it did. -/
def fnExactFewestUptoRow : OpenClaim := { program := "ytikcfpjfcpbfcaa", sum := "7ecff98a45e6dc4c299c8efa744e0064c3dd7d442cc9f459ad5fdff7c14e63f6", func := "loop.example/g00062/laws.FnExactFewest", spec := "fnExactFewest", recurses := true, plainKeys := false, apart := false, narrowed := true }
def FnExactFewestUptoSaid : Prop := fnExactFewestUptoRow.holds Try.pinned (OpenSpec.upto fnExactFewestSpec)

/-- 'laws.FnFewest', WHERE WHAT IT READS IS OF BULK AT MOST 1048576: true; the input reads as it did. -/
def fnFewestUptoRow : OpenClaim := { program := "ytikcfpjfcpbfcaa", sum := "7ecff98a45e6dc4c299c8efa744e0064c3dd7d442cc9f459ad5fdff7c14e63f6", func := "loop.example/g00062/laws.FnFewest", spec := "fnFewest", inPlace := ["slices.overlaps[loop.example/g00062/impl.Permit]"], recurses := true, plainKeys := false, apart := false, narrowed := true }
def FnFewestUptoSaid : Prop := fnFewestUptoRow.holds Try.pinned (OpenSpec.upto fnFewestSpec)

/-- 'laws.FnPermits', WHERE WHAT IT READS IS OF BULK AT MOST 1048576: true; the input reads as it did. -/
def fnPermitsUptoRow : OpenClaim := { program := "ytikcfpjfcpbfcaa", sum := "7ecff98a45e6dc4c299c8efa744e0064c3dd7d442cc9f459ad5fdff7c14e63f6", func := "loop.example/g00062/laws.FnPermits", spec := "fnPermits", inPlace := ["slices.overlaps[loop.example/g00062/impl.Permit]"], recurses := true, plainKeys := false, apart := false, narrowed := true }
def FnPermitsUptoSaid : Prop := fnPermitsUptoRow.holds Try.pinned (OpenSpec.upto fnPermitsSpec)

end Rows
end Go.Proofs.Ytikcfpjfcpbfcaa
