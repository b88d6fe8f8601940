/-
  No cell of these rows narrows 'for every input' (looked for: loops, veiled, ifaces, maps, wideKeys, modest, calm, conditions, laid).
  DERIVED. THE GIVEN ROWS OF THIS SEAT. 4 by the template 'for every input the law returns true; each argument reads behind the call as it read before'; 0 by the template 'total and deterministic' (their statements: YteaohjcnlalapabTotals.lean).
  GIVEN WITH THE SEED: the statements are not yours to turn. If you find one false, say at which input.
  Laid BY PROGRAM, IN A SANDBOX (cutbox-rows.mjs): the forced cells as the released guide's own fill.sh prints them over the translation ffd700dc24cff48d… (all of the seat's roots in one cut). By AI agents, Wed Nov 11 2026. No macro, syntax, notation, axiom, sorry.
-/
import Derived.Test.YteaohjcnlalapabChecked
import GoSem.Claim
import GoSem.ClaimJoined
import GoSem.ClaimMapViews
import Derived.JoinedTies
import Derived.KernelRfl
namespace Go.Proofs.Yteaohjcnlalapab
/- THE CELL 'sum', in the pinned program and in every row, IS THE sha256 OF THE DUMP (.gsa) THAT YteaohjcnlalapabProg.lean LOADS. Nothing in Lean hashes anything: it is a label: what it is worth is what the hold of that sum in a sandbox is worth. -/
noncomputable def Try.pinned : Pinned := { name := "yteaohjcnlalapab", sum := "ffd700dc24cff48d9f81bf4cf25efc00f1a773753ada7cfb507ce929c5f80c73", checked := Try.checked }
namespace Rows
def none {H : Type} : Left H := { results := [], args := [] }

/-- 'laws.FnDrumPieces': WHATEVER THE INPUT: true; the input reads as it did. -/
def fnDrumPiecesSpec : ChangeSpec := { name := "fnDrumPieces", fn := fun _ => fun
  | [d] => { results := [.lit (.bool true)], args := [d] }
  | _ => none }
def fnDrumPiecesRow : OpenClaim := { program := "yteaohjcnlalapab", sum := "ffd700dc24cff48d9f81bf4cf25efc00f1a773753ada7cfb507ce929c5f80c73", func := "loop.example/g00062/laws.FnDrumPieces", spec := "fnDrumPieces", apart := false }
def FnDrumPiecesSaid : Prop := fnDrumPiecesRow.holds Try.pinned (OpenSpec.ofChange fnDrumPiecesSpec)

/-- ITS FALSE NEIGHBOUR: 'it returns false'. Refute it at one input. -/
def fnDrumPiecesWrong : ChangeSpec := { name := "fnDrumPieces", fn := fun _ => fun
  | [d] => { results := [.lit (.bool false)], args := [d] }
  | _ => none }
def FnDrumPiecesWrongFalsely : Prop := fnDrumPiecesRow.holds Try.pinned (OpenSpec.ofChange fnDrumPiecesWrong)

/-- 'laws.FnControlled': WHATEVER THE INPUT: true; the input reads as it did. -/
def fnControlledSpec : ChangeSpec := { name := "fnControlled", fn := fun _ => fun
  | [d] => { results := [.lit (.bool true)], args := [d] }
  | _ => none }
def fnControlledRow : OpenClaim := { program := "yteaohjcnlalapab", sum := "ffd700dc24cff48d9f81bf4cf25efc00f1a773753ada7cfb507ce929c5f80c73", func := "loop.example/g00062/laws.FnControlled", spec := "fnControlled", apart := false }
def FnControlledSaid : Prop := fnControlledRow.holds Try.pinned (OpenSpec.ofChange fnControlledSpec)

/-- ITS FALSE NEIGHBOUR: 'it returns false'. Refute it at one input. -/
def fnControlledWrong : ChangeSpec := { name := "fnControlled", fn := fun _ => fun
  | [d] => { results := [.lit (.bool false)], args := [d] }
  | _ => none }
def FnControlledWrongFalsely : Prop := fnControlledRow.holds Try.pinned (OpenSpec.ofChange fnControlledWrong)

/-- 'laws.FnExactShort': WHATEVER THE INPUT: true; the input reads as it did. -/
def fnExactShortSpec : ChangeSpec := { name := "fnExactShort", fn := fun _ => fun
  | [d] => { results := [.lit (.bool true)], args := [d] }
  | _ => none }
def fnExactShortRow : OpenClaim := { program := "yteaohjcnlalapab", sum := "ffd700dc24cff48d9f81bf4cf25efc00f1a773753ada7cfb507ce929c5f80c73", func := "loop.example/g00062/laws.FnExactShort", spec := "fnExactShort", inPlace := ["math.Float32bits"], apart := false }
def FnExactShortSaid : Prop := fnExactShortRow.holds Try.pinned (OpenSpec.ofChange fnExactShortSpec)

/-- ITS FALSE NEIGHBOUR: 'it returns false'. Refute it at one input. -/
def fnExactShortWrong : ChangeSpec := { name := "fnExactShort", fn := fun _ => fun
  | [d] => { results := [.lit (.bool false)], args := [d] }
  | _ => none }
def FnExactShortWrongFalsely : Prop := fnExactShortRow.holds Try.pinned (OpenSpec.ofChange fnExactShortWrong)

/-- 'laws.FnExactBalance': WHATEVER THE INPUT: true; the input reads as it did. -/
def fnExactBalanceSpec : ChangeSpec := { name := "fnExactBalance", fn := fun _ => fun
  | [d1, d2] => { results := [.lit (.bool true)], args := [d1, d2] }
  | _ => none }
def fnExactBalanceRow : OpenClaim := { program := "yteaohjcnlalapab", sum := "ffd700dc24cff48d9f81bf4cf25efc00f1a773753ada7cfb507ce929c5f80c73", func := "loop.example/g00062/laws.FnExactBalance", spec := "fnExactBalance", apart := false }
def FnExactBalanceSaid : Prop := fnExactBalanceRow.holds Try.pinned (OpenSpec.ofChange fnExactBalanceSpec)

/-- ITS FALSE NEIGHBOUR: 'it returns false'. Refute it at one input. -/
def fnExactBalanceWrong : ChangeSpec := { name := "fnExactBalance", fn := fun _ => fun
  | [d1, d2] => { results := [.lit (.bool false)], args := [d1, d2] }
  | _ => none }
def FnExactBalanceWrongFalsely : Prop := fnExactBalanceRow.holds Try.pinned (OpenSpec.ofChange fnExactBalanceWrong)

/- THE SECOND FORM. 'bulk': how many values and letters a reading holds, each counted each time it is reached (what is shared counts as often as it is met; a slice's spare places count too). A statement '..UptoSaid' is the law's where the arguments, and the package variables that the reading takes, are together of bulk at most 1048576: NARROWER than '..Said'. Prove '..Said' where nothing that the law and all that it calls make is longer than what came in: it says more and counts as full. Else prove '..UptoSaid'. A law counts once. -/
mutual
def uptoBulk {H : Type} : DataW H → Nat
  | .lit (.string bytes) => bytes.length + 1
  | .lit _ => 1
  | .nil => 1
  | .ptr d => uptoBulk d + 1
  | .slice elems spare => uptoBulkAll elems + uptoBulkAll spare + 1
  | .agg parts => uptoBulkAll parts + 1
  | .iface _ d => uptoBulk d + 1
  | .map entries => uptoBulkEntries entries + 1
  | .held _ => 1
def uptoBulkAll {H : Type} : List (DataW H) → Nat
  | [] => 0
  | d :: r => uptoBulk d + uptoBulkAll r
def uptoBulkEntries {H : Type} : List (Lit × DataW H) → Nat
  | [] => 0
  | x :: r => uptoBulkEntry x + uptoBulkEntries r
def uptoBulkEntry {H : Type} : Lit × DataW H → Nat
  | (.string bytes, d) => bytes.length + uptoBulk d + 1
  | (_, d) => uptoBulk d + 1
 end
def uptoSmall : (H : Type) → List (DataW H) → Bool := fun _ ds => decide (uptoBulkAll ds ≤ 1048576)
def OpenSpec.upto (s : _root_.Go.ChangeSpec) : _root_.Go.OpenSpec := { _root_.Go.OpenSpec.ofChange s with cond := some uptoSmall }

/-- 'laws.FnDrumPieces', WHERE WHAT IT READS IS OF BULK AT MOST 1048576: true; the input reads as it did. -/
def fnDrumPiecesUptoRow : OpenClaim := { program := "yteaohjcnlalapab", sum := "ffd700dc24cff48d9f81bf4cf25efc00f1a773753ada7cfb507ce929c5f80c73", func := "loop.example/g00062/laws.FnDrumPieces", spec := "fnDrumPieces", apart := false, narrowed := true }
def FnDrumPiecesUptoSaid : Prop := fnDrumPiecesUptoRow.holds Try.pinned (OpenSpec.upto fnDrumPiecesSpec)

/-- 'laws.FnControlled', WHERE WHAT IT READS IS OF BULK AT MOST 1048576: true; the input reads as it did. -/
def fnControlledUptoRow : OpenClaim := { program := "yteaohjcnlalapab", sum := "ffd700dc24cff48d9f81bf4cf25efc00f1a773753ada7cfb507ce929c5f80c73", func := "loop.example/g00062/laws.FnControlled", spec := "fnControlled", apart := false, narrowed := true }
def FnControlledUptoSaid : Prop := fnControlledUptoRow.holds Try.pinned (OpenSpec.upto fnControlledSpec)

/-- 'laws.FnExactShort', WHERE WHAT IT READS IS OF BULK AT MOST 1048576: true; the input reads as it did. -/
def fnExactShortUptoRow : OpenClaim := { program := "yteaohjcnlalapab", sum := "ffd700dc24cff48d9f81bf4cf25efc00f1a773753ada7cfb507ce929c5f80c73", func := "loop.example/g00062/laws.FnExactShort", spec := "fnExactShort", inPlace := ["math.Float32bits"], apart := false, narrowed := true }
def FnExactShortUptoSaid : Prop := fnExactShortUptoRow.holds Try.pinned (OpenSpec.upto fnExactShortSpec)

/-- 'laws.FnExactBalance', WHERE WHAT IT READS IS OF BULK AT MOST 1048576: true; the input reads as it did. -/
def fnExactBalanceUptoRow : OpenClaim := { program := "yteaohjcnlalapab", sum := "ffd700dc24cff48d9f81bf4cf25efc00f1a773753ada7cfb507ce929c5f80c73", func := "loop.example/g00062/laws.FnExactBalance", spec := "fnExactBalance", apart := false, narrowed := true }
def FnExactBalanceUptoSaid : Prop := fnExactBalanceUptoRow.holds Try.pinned (OpenSpec.upto fnExactBalanceSpec)

end Rows
end Go.Proofs.Yteaohjcnlalapab
