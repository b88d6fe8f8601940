/-
  NARROWER THAN 'FOR EVERY INPUT', by the rows' own cells (each row's printed sentence says how): FnAtoms: laid · FnNeed: laid · FnExactBurn: laid · FnExactElements: laid · FnExactHeatOf: laid.
  DERIVED. THE GIVEN ROWS OF THIS SEAT. 5 by the template 'for every input the law returns true; each argument reads behind the call as it read before'; 0 by the template 'total and deterministic' (their statements: YtphmdnpmekdglaaDoorTotals.lean).
  GIVEN WITH THE SEED: the statements are not yours to turn. If you find one false, say at which input.
  Laid BY PROGRAM, IN A SANDBOX (cutbox-rows.mjs): the forced cells as the released guide's own fill.sh prints them over the translation 30b8ca22fe6efa15… (all of the seat's roots in one cut). By AI agents, Wed Nov 11 2026. No macro, syntax, notation, axiom, sorry.
-/
import Derived.Test.YtphmdnpmekdglaaDoorChecked
import GoSem.Claim
import GoSem.ClaimJoined
import GoSem.ClaimMapViews
import Derived.JoinedTies
import Derived.KernelRfl
namespace Go.Proofs.YtphmdnpmekdglaaDoor
/- THE CELL 'sum', in the pinned program and in every row, IS THE sha256 OF THE DUMP (.gsa) THAT YtphmdnpmekdglaaDoorProg.lean LOADS. Nothing in Lean hashes anything: it is a label: what it is worth is what the hold of that sum in a sandbox is worth. -/
noncomputable def Tryd.pinned : Pinned := { name := "ytphmdnpmekdglaadoor", sum := "30b8ca22fe6efa15a86e2b9094311e63e558bd6a084ba8ef1048c923dca5c137", checked := Tryd.checked }
namespace Rows
def none {H : Type} : Left H := { results := [], args := [] }

/- WHAT THE LISTED PACKAGE-LEVEL VARIABLES READ AS WHEN THE CALL BEGINS. Each datum BY PROGRAM (the guide's laid-datum.mjs) off the statement by which the dump's own 'gosem.cut.vars' lays the variable. In a bare row this is a premise. The card (YtphmdnpmekdglaaDoorCards.lean) ties it to the program's text. -/
def laid_loop_example_g00062_impl_molecules {H : Type} : DataW H := .agg [.agg [.agg [.lit (.int .i64 1), .lit (.int .i64 0), .lit (.int .i64 0), .lit (.int .i64 2), .lit (.int .i64 0)], .lit (.int .i64 394)], .agg [.agg [.lit (.int .i64 1), .lit (.int .i64 0), .lit (.int .i64 0), .lit (.int .i64 1), .lit (.int .i64 0)], .lit (.int .i64 111)], .agg [.agg [.lit (.int .i64 1), .lit (.int .i64 0), .lit (.int .i64 0), .lit (.int .i64 0), .lit (.int .i64 0)], .lit (.int .i64 0)], .agg [.agg [.lit (.int .i64 0), .lit (.int .i64 2), .lit (.int .i64 0), .lit (.int .i64 1), .lit (.int .i64 0)], .lit (.int .i64 242)], .agg [.agg [.lit (.int .i64 0), .lit (.int .i64 2), .lit (.int .i64 0), .lit (.int .i64 0), .lit (.int .i64 0)], .lit (.int .i64 0)], .agg [.agg [.lit (.int .i64 0), .lit (.int .i64 0), .lit (.int .i64 1), .lit (.int .i64 2), .lit (.int .i64 0)], .lit (.int .i64 297)], .agg [.agg [.lit (.int .i64 0), .lit (.int .i64 0), .lit (.int .i64 1), .lit (.int .i64 0), .lit (.int .i64 0)], .lit (.int .i64 0)], .agg [.agg [.lit (.int .i64 0), .lit (.int .i64 0), .lit (.int .i64 0), .lit (.int .i64 1), .lit (.int .i64 0)], .lit (.int .i64 0)], .agg [.agg [.lit (.int .i64 0), .lit (.int .i64 0), .lit (.int .i64 0), .lit (.int .i64 0), .lit (.int .i64 1)], .lit (.int .i64 0)]]
def laid_loop_example_g00062_impl_burnings {H : Type} : DataW H := .agg [.agg [.lit (.int .i64 4), .lit (.int .i64 1), .lit (.int .i64 3)], .agg [.lit (.int .i64 6), .lit (.int .i64 2), .lit (.int .i64 5)], .agg [.lit (.int .i64 2), .lit (.int .i64 1), .lit (.int .i64 1)], .agg [.lit (.int .i64 1), .lit (.int .i64 1), .lit (.int .i64 0)]]

/-- 'laws.FnAtoms': WHATEVER THE INPUT: true; the input reads as it did. -/
def fnAtomsSpec : ChangeSpec := { name := "fnAtoms", vars := ["loop.example/g00062/impl.burnings", "loop.example/g00062/impl.molecules"], fn := fun _ => fun
  | [d, g1, g2] => { results := [.lit (.bool true)], args := [d], vars := [g1, g2] }
  | _ => none }
def fnAtomsRow : OpenClaim := { program := "ytphmdnpmekdglaadoor", sum := "30b8ca22fe6efa15a86e2b9094311e63e558bd6a084ba8ef1048c923dca5c137", func := "loop.example/g00062/laws.FnAtoms", spec := "fnAtoms", named := ["loop.example/g00062/impl.burnings", "loop.example/g00062/impl.molecules"], apart := false, laid := [("loop.example/g00062/impl.molecules", laid_loop_example_g00062_impl_molecules), ("loop.example/g00062/impl.burnings", laid_loop_example_g00062_impl_burnings)] }
def FnAtomsSaid : Prop := fnAtomsRow.holds Tryd.pinned (OpenSpec.ofChange fnAtomsSpec)

/-- ITS FALSE NEIGHBOUR: 'it returns false'. Refute it at one input. -/
def fnAtomsWrong : ChangeSpec := { name := "fnAtoms", vars := ["loop.example/g00062/impl.burnings", "loop.example/g00062/impl.molecules"], fn := fun _ => fun
  | [d, g1, g2] => { results := [.lit (.bool false)], args := [d], vars := [g1, g2] }
  | _ => none }
def FnAtomsWrongFalsely : Prop := fnAtomsRow.holds Tryd.pinned (OpenSpec.ofChange fnAtomsWrong)

/-- 'laws.FnNeed': WHATEVER THE INPUT: true; the input reads as it did. -/
def fnNeedSpec : ChangeSpec := { name := "fnNeed", vars := ["loop.example/g00062/impl.burnings", "loop.example/g00062/impl.molecules"], fn := fun _ => fun
  | [d, g1, g2] => { results := [.lit (.bool true)], args := [d], vars := [g1, g2] }
  | _ => none }
def fnNeedRow : OpenClaim := { program := "ytphmdnpmekdglaadoor", sum := "30b8ca22fe6efa15a86e2b9094311e63e558bd6a084ba8ef1048c923dca5c137", func := "loop.example/g00062/laws.FnNeed", spec := "fnNeed", named := ["loop.example/g00062/impl.burnings", "loop.example/g00062/impl.molecules"], apart := false, laid := [("loop.example/g00062/impl.molecules", laid_loop_example_g00062_impl_molecules), ("loop.example/g00062/impl.burnings", laid_loop_example_g00062_impl_burnings)] }
def FnNeedSaid : Prop := fnNeedRow.holds Tryd.pinned (OpenSpec.ofChange fnNeedSpec)

/-- ITS FALSE NEIGHBOUR: 'it returns false'. Refute it at one input. -/
def fnNeedWrong : ChangeSpec := { name := "fnNeed", vars := ["loop.example/g00062/impl.burnings", "loop.example/g00062/impl.molecules"], fn := fun _ => fun
  | [d, g1, g2] => { results := [.lit (.bool false)], args := [d], vars := [g1, g2] }
  | _ => none }
def FnNeedWrongFalsely : Prop := fnNeedRow.holds Tryd.pinned (OpenSpec.ofChange fnNeedWrong)

/-- 'laws.FnExactBurn': WHATEVER THE INPUT: true; the input reads as it did. -/
def fnExactBurnSpec : ChangeSpec := { name := "fnExactBurn", vars := ["loop.example/g00062/impl.burnings"], fn := fun _ => fun
  | [d1, d2, g1] => { results := [.lit (.bool true)], args := [d1, d2], vars := [g1] }
  | _ => none }
def fnExactBurnRow : OpenClaim := { program := "ytphmdnpmekdglaadoor", sum := "30b8ca22fe6efa15a86e2b9094311e63e558bd6a084ba8ef1048c923dca5c137", func := "loop.example/g00062/laws.FnExactBurn", spec := "fnExactBurn", named := ["loop.example/g00062/impl.burnings"], apart := false, laid := [("loop.example/g00062/impl.burnings", laid_loop_example_g00062_impl_burnings)] }
def FnExactBurnSaid : Prop := fnExactBurnRow.holds Tryd.pinned (OpenSpec.ofChange fnExactBurnSpec)

/-- ITS FALSE NEIGHBOUR: 'it returns false'. Refute it at one input. -/
def fnExactBurnWrong : ChangeSpec := { name := "fnExactBurn", vars := ["loop.example/g00062/impl.burnings"], fn := fun _ => fun
  | [d1, d2, g1] => { results := [.lit (.bool false)], args := [d1, d2], vars := [g1] }
  | _ => none }
def FnExactBurnWrongFalsely : Prop := fnExactBurnRow.holds Tryd.pinned (OpenSpec.ofChange fnExactBurnWrong)

/-- 'laws.FnExactElements': WHATEVER THE INPUT: true; the input reads as it did. -/
def fnExactElementsSpec : ChangeSpec := { name := "fnExactElements", vars := ["loop.example/g00062/impl.molecules"], fn := fun _ => fun
  | [d, g1] => { results := [.lit (.bool true)], args := [d], vars := [g1] }
  | _ => none }
def fnExactElementsRow : OpenClaim := { program := "ytphmdnpmekdglaadoor", sum := "30b8ca22fe6efa15a86e2b9094311e63e558bd6a084ba8ef1048c923dca5c137", func := "loop.example/g00062/laws.FnExactElements", spec := "fnExactElements", named := ["loop.example/g00062/impl.molecules"], apart := false, laid := [("loop.example/g00062/impl.molecules", laid_loop_example_g00062_impl_molecules)] }
def FnExactElementsSaid : Prop := fnExactElementsRow.holds Tryd.pinned (OpenSpec.ofChange fnExactElementsSpec)

/-- ITS FALSE NEIGHBOUR: 'it returns false'. Refute it at one input. -/
def fnExactElementsWrong : ChangeSpec := { name := "fnExactElements", vars := ["loop.example/g00062/impl.molecules"], fn := fun _ => fun
  | [d, g1] => { results := [.lit (.bool false)], args := [d], vars := [g1] }
  | _ => none }
def FnExactElementsWrongFalsely : Prop := fnExactElementsRow.holds Tryd.pinned (OpenSpec.ofChange fnExactElementsWrong)

/-- 'laws.FnExactHeatOf': WHATEVER THE INPUT: true; the input reads as it did. -/
def fnExactHeatOfSpec : ChangeSpec := { name := "fnExactHeatOf", vars := ["loop.example/g00062/impl.molecules"], fn := fun _ => fun
  | [d, g1] => { results := [.lit (.bool true)], args := [d], vars := [g1] }
  | _ => none }
def fnExactHeatOfRow : OpenClaim := { program := "ytphmdnpmekdglaadoor", sum := "30b8ca22fe6efa15a86e2b9094311e63e558bd6a084ba8ef1048c923dca5c137", func := "loop.example/g00062/laws.FnExactHeatOf", spec := "fnExactHeatOf", named := ["loop.example/g00062/impl.molecules"], apart := false, laid := [("loop.example/g00062/impl.molecules", laid_loop_example_g00062_impl_molecules)] }
def FnExactHeatOfSaid : Prop := fnExactHeatOfRow.holds Tryd.pinned (OpenSpec.ofChange fnExactHeatOfSpec)

/-- ITS FALSE NEIGHBOUR: 'it returns false'. Refute it at one input. -/
def fnExactHeatOfWrong : ChangeSpec := { name := "fnExactHeatOf", vars := ["loop.example/g00062/impl.molecules"], fn := fun _ => fun
  | [d, g1] => { results := [.lit (.bool false)], args := [d], vars := [g1] }
  | _ => none }
def FnExactHeatOfWrongFalsely : Prop := fnExactHeatOfRow.holds Tryd.pinned (OpenSpec.ofChange fnExactHeatOfWrong)

/- THE SECOND FORM. 'bulk': how many values and letters a reading holds, each counted each time it is reached (what is shared counts as often as it is met; a slice's spare places count too). A statement '..UptoSaid' is the law's where the arguments, and the package variables that the reading takes, are together of bulk at most 1048576: NARROWER than '..Said'. Prove '..Said' where nothing that the law and all that it calls make is longer than what came in: it says more and counts as full. Else prove '..UptoSaid'. A law counts once. -/
mutual
def uptoBulk {H : Type} : DataW H → Nat
  | .lit (.string bytes) => bytes.length + 1
  | .lit _ => 1
  | .nil => 1
  | .ptr d => uptoBulk d + 1
  | .slice elems spare => uptoBulkAll elems + uptoBulkAll spare + 1
  | .agg parts => uptoBulkAll parts + 1
  | .iface _ d => uptoBulk d + 1
  | .map entries => uptoBulkEntries entries + 1
  | .held _ => 1
def uptoBulkAll {H : Type} : List (DataW H) → Nat
  | [] => 0
  | d :: r => uptoBulk d + uptoBulkAll r
def uptoBulkEntries {H : Type} : List (Lit × DataW H) → Nat
  | [] => 0
  | x :: r => uptoBulkEntry x + uptoBulkEntries r
def uptoBulkEntry {H : Type} : Lit × DataW H → Nat
  | (.string bytes, d) => bytes.length + uptoBulk d + 1
  | (_, d) => uptoBulk d + 1
 end
def uptoSmall : (H : Type) → List (DataW H) → Bool := fun _ ds => decide (uptoBulkAll ds ≤ 1048576)
def OpenSpec.upto (s : _root_.Go.ChangeSpec) : _root_.Go.OpenSpec := { _root_.Go.OpenSpec.ofChange s with cond := some uptoSmall }

/-- 'laws.FnAtoms', WHERE WHAT IT READS IS OF BULK AT MOST 1048576: true; the input reads as it did. -/
def fnAtomsUptoRow : OpenClaim := { program := "ytphmdnpmekdglaadoor", sum := "30b8ca22fe6efa15a86e2b9094311e63e558bd6a084ba8ef1048c923dca5c137", func := "loop.example/g00062/laws.FnAtoms", spec := "fnAtoms", named := ["loop.example/g00062/impl.burnings", "loop.example/g00062/impl.molecules"], apart := false, laid := [("loop.example/g00062/impl.molecules", laid_loop_example_g00062_impl_molecules), ("loop.example/g00062/impl.burnings", laid_loop_example_g00062_impl_burnings)], narrowed := true }
def FnAtomsUptoSaid : Prop := fnAtomsUptoRow.holds Tryd.pinned (OpenSpec.upto fnAtomsSpec)

/-- 'laws.FnNeed', WHERE WHAT IT READS IS OF BULK AT MOST 1048576: true; the input reads as it did. -/
def fnNeedUptoRow : OpenClaim := { program := "ytphmdnpmekdglaadoor", sum := "30b8ca22fe6efa15a86e2b9094311e63e558bd6a084ba8ef1048c923dca5c137", func := "loop.example/g00062/laws.FnNeed", spec := "fnNeed", named := ["loop.example/g00062/impl.burnings", "loop.example/g00062/impl.molecules"], apart := false, laid := [("loop.example/g00062/impl.molecules", laid_loop_example_g00062_impl_molecules), ("loop.example/g00062/impl.burnings", laid_loop_example_g00062_impl_burnings)], narrowed := true }
def FnNeedUptoSaid : Prop := fnNeedUptoRow.holds Tryd.pinned (OpenSpec.upto fnNeedSpec)

/-- 'laws.FnExactBurn', WHERE WHAT IT READS IS OF BULK AT MOST 1048576: true; the input reads as it did. -/
def fnExactBurnUptoRow : OpenClaim := { program := "ytphmdnpmekdglaadoor", sum := "30b8ca22fe6efa15a86e2b9094311e63e558bd6a084ba8ef1048c923dca5c137", func := "loop.example/g00062/laws.FnExactBurn", spec := "fnExactBurn", named := ["loop.example/g00062/impl.burnings"], apart := false, laid := [("loop.example/g00062/impl.burnings", laid_loop_example_g00062_impl_burnings)], narrowed := true }
def FnExactBurnUptoSaid : Prop := fnExactBurnUptoRow.holds Tryd.pinned (OpenSpec.upto fnExactBurnSpec)

/-- 'laws.FnExactElements', WHERE WHAT IT READS IS OF BULK AT MOST 1048576: true; the input reads as it did. -/
def fnExactElementsUptoRow : OpenClaim := { program := "ytphmdnpmekdglaadoor", sum := "30b8ca22fe6efa15a86e2b9094311e63e558bd6a084ba8ef1048c923dca5c137", func := "loop.example/g00062/laws.FnExactElements", spec := "fnExactElements", named := ["loop.example/g00062/impl.molecules"], apart := false, laid := [("loop.example/g00062/impl.molecules", laid_loop_example_g00062_impl_molecules)], narrowed := true }
def FnExactElementsUptoSaid : Prop := fnExactElementsUptoRow.holds Tryd.pinned (OpenSpec.upto fnExactElementsSpec)

/-- 'laws.FnExactHeatOf', WHERE WHAT IT READS IS OF BULK AT MOST 1048576: true; the input reads as it did. -/
def fnExactHeatOfUptoRow : OpenClaim := { program := "ytphmdnpmekdglaadoor", sum := "30b8ca22fe6efa15a86e2b9094311e63e558bd6a084ba8ef1048c923dca5c137", func := "loop.example/g00062/laws.FnExactHeatOf", spec := "fnExactHeatOf", named := ["loop.example/g00062/impl.molecules"], apart := false, laid := [("loop.example/g00062/impl.molecules", laid_loop_example_g00062_impl_molecules)], narrowed := true }
def FnExactHeatOfUptoSaid : Prop := fnExactHeatOfUptoRow.holds Tryd.pinned (OpenSpec.upto fnExactHeatOfSpec)

end Rows
end Go.Proofs.YtphmdnpmekdglaaDoor
