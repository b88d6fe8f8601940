/-
  No cell of these rows narrows 'for every input' (looked for: loops, veiled, ifaces, maps, wideKeys, modest, calm, conditions, laid).
  DERIVED. THE GIVEN ROWS OF THIS SEAT. 4 by the template 'for every input the law returns true; each argument reads behind the call as it read before'; 0 by the template 'total and deterministic' (their statements: YtmhibahefbldaaaTotals.lean).
  GIVEN WITH THE SEED: the statements are not yours to turn. If you find one false, say at which input.
  Laid BY PROGRAM, IN A SANDBOX (cutbox-rows.mjs): the forced cells as the released guide's own fill.sh prints them over the translation 22d805c0b6771a43… (all of the seat's roots in one cut). By AI agents, Wed Nov 11 2026. No macro, syntax, notation, axiom, sorry.
-/
import Derived.Test.YtmhibahefbldaaaChecked
import GoSem.Claim
import GoSem.ClaimJoined
import GoSem.ClaimMapViews
import Derived.JoinedTies
import Derived.KernelRfl
namespace Go.Proofs.Ytmhibahefbldaaa
/- THE CELL 'sum', in the pinned program and in every row, IS THE sha256 OF THE DUMP (.gsa) THAT YtmhibahefbldaaaProg.lean LOADS. Nothing in Lean hashes anything: it is a label: what it is worth is what the hold of that sum in a sandbox is worth. -/
noncomputable def Try.pinned : Pinned := { name := "ytmhibahefbldaaa", sum := "22d805c0b6771a435ea4dd6df4ae4efae0b25b2032de20b76ab74ea7135bf97b", checked := Try.checked }
namespace Rows
def none {H : Type} : Left H := { results := [], args := [] }

/-- 'laws.FnExactDelayOf': WHATEVER THE INPUT: true; the input reads as it did. -/
def fnExactDelayOfSpec : ChangeSpec := { name := "fnExactDelayOf", fn := fun _ => fun
  | [d1, d2] => { results := [.lit (.bool true)], args := [d1, d2] }
  | _ => none }
def fnExactDelayOfRow : OpenClaim := { program := "ytmhibahefbldaaa", sum := "22d805c0b6771a435ea4dd6df4ae4efae0b25b2032de20b76ab74ea7135bf97b", func := "loop.example/g00062/laws.FnExactDelayOf", spec := "fnExactDelayOf", apart := false }
def FnExactDelayOfSaid : Prop := fnExactDelayOfRow.holds Try.pinned (OpenSpec.ofChange fnExactDelayOfSpec)

/-- ITS FALSE NEIGHBOUR: 'it returns false'. Refute it at one input. -/
def fnExactDelayOfWrong : ChangeSpec := { name := "fnExactDelayOf", fn := fun _ => fun
  | [d1, d2] => { results := [.lit (.bool false)], args := [d1, d2] }
  | _ => none }
def FnExactDelayOfWrongFalsely : Prop := fnExactDelayOfRow.holds Try.pinned (OpenSpec.ofChange fnExactDelayOfWrong)

/-- 'laws.FnExactCleared': WHATEVER THE INPUT: true; the input reads as it did. -/
def fnExactClearedSpec : ChangeSpec := { name := "fnExactCleared", fn := fun _ => fun
  | [d1, d2, d3] => { results := [.lit (.bool true)], args := [d1, d2, d3] }
  | _ => none }
def fnExactClearedRow : OpenClaim := { program := "ytmhibahefbldaaa", sum := "22d805c0b6771a435ea4dd6df4ae4efae0b25b2032de20b76ab74ea7135bf97b", func := "loop.example/g00062/laws.FnExactCleared", spec := "fnExactCleared", apart := false }
def FnExactClearedSaid : Prop := fnExactClearedRow.holds Try.pinned (OpenSpec.ofChange fnExactClearedSpec)

/-- ITS FALSE NEIGHBOUR: 'it returns false'. Refute it at one input. -/
def fnExactClearedWrong : ChangeSpec := { name := "fnExactCleared", fn := fun _ => fun
  | [d1, d2, d3] => { results := [.lit (.bool false)], args := [d1, d2, d3] }
  | _ => none }
def FnExactClearedWrongFalsely : Prop := fnExactClearedRow.holds Try.pinned (OpenSpec.ofChange fnExactClearedWrong)

/-- 'laws.FnExactSelective': WHATEVER THE INPUT: true; the input reads as it did. -/
def fnExactSelectiveSpec : ChangeSpec := { name := "fnExactSelective", fn := fun _ => fun
  | [d1, d2, d3] => { results := [.lit (.bool true)], args := [d1, d2, d3] }
  | _ => none }
def fnExactSelectiveRow : OpenClaim := { program := "ytmhibahefbldaaa", sum := "22d805c0b6771a435ea4dd6df4ae4efae0b25b2032de20b76ab74ea7135bf97b", func := "loop.example/g00062/laws.FnExactSelective", spec := "fnExactSelective", apart := false }
def FnExactSelectiveSaid : Prop := fnExactSelectiveRow.holds Try.pinned (OpenSpec.ofChange fnExactSelectiveSpec)

/-- ITS FALSE NEIGHBOUR: 'it returns false'. Refute it at one input. -/
def fnExactSelectiveWrong : ChangeSpec := { name := "fnExactSelective", fn := fun _ => fun
  | [d1, d2, d3] => { results := [.lit (.bool false)], args := [d1, d2, d3] }
  | _ => none }
def FnExactSelectiveWrongFalsely : Prop := fnExactSelectiveRow.holds Try.pinned (OpenSpec.ofChange fnExactSelectiveWrong)

/-- 'laws.FnSelective': WHATEVER THE INPUT: true; the input reads as it did. -/
def fnSelectiveSpec : ChangeSpec := { name := "fnSelective", fn := fun _ => fun
  | [d] => { results := [.lit (.bool true)], args := [d] }
  | _ => none }
def fnSelectiveRow : OpenClaim := { program := "ytmhibahefbldaaa", sum := "22d805c0b6771a435ea4dd6df4ae4efae0b25b2032de20b76ab74ea7135bf97b", func := "loop.example/g00062/laws.FnSelective", spec := "fnSelective", apart := false }
def FnSelectiveSaid : Prop := fnSelectiveRow.holds Try.pinned (OpenSpec.ofChange fnSelectiveSpec)

/-- ITS FALSE NEIGHBOUR: 'it returns false'. Refute it at one input. -/
def fnSelectiveWrong : ChangeSpec := { name := "fnSelective", fn := fun _ => fun
  | [d] => { results := [.lit (.bool false)], args := [d] }
  | _ => none }
def FnSelectiveWrongFalsely : Prop := fnSelectiveRow.holds Try.pinned (OpenSpec.ofChange fnSelectiveWrong)

/- THE SECOND FORM. 'bulk': how many values and letters a reading holds, each counted each time it is reached (what is shared counts as often as it is met; a slice's spare places count too). A statement '..UptoSaid' is the law's where the arguments, and the package variables that the reading takes, are together of bulk at most 1048576: NARROWER than '..Said'. Prove '..Said' where nothing that the law and all that it calls make is longer than what came in: it says more and counts as full. Else prove '..UptoSaid'. A law counts once. -/
mutual
def uptoBulk {H : Type} : DataW H → Nat
  | .lit (.string bytes) => bytes.length + 1
  | .lit _ => 1
  | .nil => 1
  | .ptr d => uptoBulk d + 1
  | .slice elems spare => uptoBulkAll elems + uptoBulkAll spare + 1
  | .agg parts => uptoBulkAll parts + 1
  | .iface _ d => uptoBulk d + 1
  | .map entries => uptoBulkEntries entries + 1
  | .held _ => 1
def uptoBulkAll {H : Type} : List (DataW H) → Nat
  | [] => 0
  | d :: r => uptoBulk d + uptoBulkAll r
def uptoBulkEntries {H : Type} : List (Lit × DataW H) → Nat
  | [] => 0
  | x :: r => uptoBulkEntry x + uptoBulkEntries r
def uptoBulkEntry {H : Type} : Lit × DataW H → Nat
  | (.string bytes, d) => bytes.length + uptoBulk d + 1
  | (_, d) => uptoBulk d + 1
 end
def uptoSmall : (H : Type) → List (DataW H) → Bool := fun _ ds => decide (uptoBulkAll ds ≤ 1048576)
def OpenSpec.upto (s : _root_.Go.ChangeSpec) : _root_.Go.OpenSpec := { _root_.Go.OpenSpec.ofChange s with cond := some uptoSmall }

/-- 'laws.FnExactDelayOf', WHERE WHAT IT READS IS OF BULK AT MOST 1048576: true; the input reads as it did. -/
def fnExactDelayOfUptoRow : OpenClaim := { program := "ytmhibahefbldaaa", sum := "22d805c0b6771a435ea4dd6df4ae4efae0b25b2032de20b76ab74ea7135bf97b", func := "loop.example/g00062/laws.FnExactDelayOf", spec := "fnExactDelayOf", apart := false, narrowed := true }
def FnExactDelayOfUptoSaid : Prop := fnExactDelayOfUptoRow.holds Try.pinned (OpenSpec.upto fnExactDelayOfSpec)

/-- 'laws.FnExactCleared', WHERE WHAT IT READS IS OF BULK AT MOST 1048576: true; the input reads as it did. -/
def fnExactClearedUptoRow : OpenClaim := { program := "ytmhibahefbldaaa", sum := "22d805c0b6771a435ea4dd6df4ae4efae0b25b2032de20b76ab74ea7135bf97b", func := "loop.example/g00062/laws.FnExactCleared", spec := "fnExactCleared", apart := false, narrowed := true }
def FnExactClearedUptoSaid : Prop := fnExactClearedUptoRow.holds Try.pinned (OpenSpec.upto fnExactClearedSpec)

/-- 'laws.FnExactSelective', WHERE WHAT IT READS IS OF BULK AT MOST 1048576: true; the input reads as it did. -/
def fnExactSelectiveUptoRow : OpenClaim := { program := "ytmhibahefbldaaa", sum := "22d805c0b6771a435ea4dd6df4ae4efae0b25b2032de20b76ab74ea7135bf97b", func := "loop.example/g00062/laws.FnExactSelective", spec := "fnExactSelective", apart := false, narrowed := true }
def FnExactSelectiveUptoSaid : Prop := fnExactSelectiveUptoRow.holds Try.pinned (OpenSpec.upto fnExactSelectiveSpec)

/-- 'laws.FnSelective', WHERE WHAT IT READS IS OF BULK AT MOST 1048576: true; the input reads as it did. -/
def fnSelectiveUptoRow : OpenClaim := { program := "ytmhibahefbldaaa", sum := "22d805c0b6771a435ea4dd6df4ae4efae0b25b2032de20b76ab74ea7135bf97b", func := "loop.example/g00062/laws.FnSelective", spec := "fnSelective", apart := false, narrowed := true }
def FnSelectiveUptoSaid : Prop := fnSelectiveUptoRow.holds Try.pinned (OpenSpec.upto fnSelectiveSpec)

end Rows
end Go.Proofs.Ytmhibahefbldaaa
