/-
  NARROWER THAN 'FOR EVERY INPUT', by the rows' own cells (each row's printed sentence says how): FnSchedules: ifaces, laid · FnExactCritical: ifaces, laid · FnExactScheduleOk: ifaces, laid · FnExactSchedule: ifaces, laid.
  DERIVED. THE GIVEN ROWS OF THIS SEAT. 4 by the template 'for every input the law returns true; each argument reads behind the call as it read before'; 0 by the template 'total and deterministic' (their statements: YtffjhbgnhnnfiaaDoorTotals.lean).
  GIVEN WITH THE SEED: the statements are not yours to turn. If you find one false, say at which input.
  Laid BY PROGRAM, IN A SANDBOX (cutbox-rows.mjs): the forced cells as the released guide's own fill.sh prints them over the translation ee2f54660ced897d… (all of the seat's roots in one cut). By AI agents, Wed Nov 11 2026. No macro, syntax, notation, axiom, sorry.
-/
import Derived.Test.YtffjhbgnhnnfiaaDoorChecked
import GoSem.Claim
import GoSem.ClaimJoined
import GoSem.ClaimMapViews
import Derived.JoinedTies
import Derived.KernelRfl
namespace Go.Proofs.YtffjhbgnhnnfiaaDoor
/- THE CELL 'sum', in the pinned program and in every row, IS THE sha256 OF THE DUMP (.gsa) THAT YtffjhbgnhnnfiaaDoorProg.lean LOADS. Nothing in Lean hashes anything: it is a label: what it is worth is what the hold of that sum in a sandbox is worth. -/
noncomputable def Tryd.pinned : Pinned := { name := "ytffjhbgnhnnfiaadoor", sum := "ee2f54660ced897ddfbaaf2cde30b9adbfaec2fdceb56e70124aa410b087ce77", checked := Tryd.checked }
namespace Rows
def none {H : Type} : Left H := { results := [], args := [] }

/- WHAT THE LISTED PACKAGE-LEVEL VARIABLES READ AS WHEN THE CALL BEGINS. Each datum BY PROGRAM (the guide's laid-datum.mjs) off the statement by which the dump's own 'gosem.cut.vars' lays the variable. In a bare row this is a premise. The card (YtffjhbgnhnnfiaaDoorCards.lean) ties it to the program's text. -/
def laid_errors_errorType {H : Type} : DataW H := .iface "internal/reflectlite.rtype" (.agg [.ptr (.lit (.string [101, 114, 114, 111, 114]))])
def laid_loop_example_g00062_impl_errMany {H : Type} : DataW H := .iface "*errors.errorString" (.ptr (.agg [.lit (.string [110, 111, 116, 32, 97, 115, 32, 109, 97, 110, 121, 32, 97, 115, 32, 116, 104, 101, 114, 101, 32, 109, 97, 121, 32, 98, 101])]))
def laid_loop_example_g00062_impl_errBounds {H : Type} : DataW H := .iface "*errors.errorString" (.ptr (.agg [.lit (.string [97, 32, 110, 117, 109, 98, 101, 114, 32, 116, 104, 97, 116, 32, 105, 115, 32, 111, 117, 116, 32, 111, 102, 32, 105, 116, 115, 32, 98, 111, 117, 110, 100, 115])]))
def laid_loop_example_g00062_impl_errAfter {H : Type} : DataW H := .iface "*errors.errorString" (.ptr (.agg [.lit (.string [97, 32, 106, 111, 98, 32, 116, 104, 97, 116, 32, 99, 111, 109, 101, 115, 32, 98, 101, 104, 105, 110, 100, 32, 119, 104, 97, 116, 32, 100, 111, 101, 115, 32, 110, 111, 116, 32, 115, 116, 97, 110, 100, 32, 97, 104, 101, 97, 100, 32, 111, 102, 32, 105, 116])]))
def laid_loop_example_g00062_impl_errEarly {H : Type} : DataW H := .iface "*errors.errorString" (.ptr (.agg [.lit (.string [97, 32, 106, 111, 98, 32, 116, 104, 97, 116, 32, 98, 101, 103, 105, 110, 115, 32, 97, 104, 101, 97, 100, 32, 111, 102, 32, 97, 110, 32, 101, 110, 100, 32, 116, 104, 97, 116, 32, 105, 116, 32, 119, 97, 105, 116, 115, 32, 102, 111, 114])]))
def laid_loop_example_g00062_impl_errCrews {H : Type} : DataW H := .iface "*errors.errorString" (.ptr (.agg [.lit (.string [109, 111, 114, 101, 32, 106, 111, 98, 115, 32, 117, 110, 100, 101, 114, 32, 119, 97, 121, 32, 116, 104, 97, 110, 32, 99, 114, 101, 119, 115])]))

/-- 'laws.FnSchedules': WHATEVER THE INPUT: true; the input reads as it did. -/
def fnSchedulesSpec : ChangeSpec := { name := "fnSchedules", vars := ["loop.example/g00062/impl.errMany", "loop.example/g00062/impl.errBounds", "loop.example/g00062/impl.errAfter", "loop.example/g00062/impl.errEarly", "loop.example/g00062/impl.errCrews"], fn := fun _ => fun
  | [d, g1, g2, g3, g4, g5] => { results := [.lit (.bool true)], args := [d], vars := [g1, g2, g3, g4, g5] }
  | _ => none }
def fnSchedulesRow : OpenClaim := { program := "ytffjhbgnhnnfiaadoor", sum := "ee2f54660ced897ddfbaaf2cde30b9adbfaec2fdceb56e70124aa410b087ce77", func := "loop.example/g00062/laws.FnSchedules", spec := "fnSchedules", inPlace := ["internal/reflectlite.ValueOf", "(internal/reflectlite.Value).Type", "(internal/reflectlite.Value).IsNil", "internal/reflectlite.TypeOf", "(internal/reflectlite.Value).Elem", "(internal/reflectlite.Value).Set"], unfollowed := true, recurses := true, named := ["loop.example/g00062/impl.errMany", "loop.example/g00062/impl.errBounds", "loop.example/g00062/impl.errAfter", "errors.errorType", "loop.example/g00062/impl.errEarly", "loop.example/g00062/impl.errCrews"], ifaces := true, apart := false, laid := [("errors.errorType", laid_errors_errorType), ("loop.example/g00062/impl.errMany", laid_loop_example_g00062_impl_errMany), ("loop.example/g00062/impl.errBounds", laid_loop_example_g00062_impl_errBounds), ("loop.example/g00062/impl.errAfter", laid_loop_example_g00062_impl_errAfter), ("loop.example/g00062/impl.errEarly", laid_loop_example_g00062_impl_errEarly), ("loop.example/g00062/impl.errCrews", laid_loop_example_g00062_impl_errCrews)] }
def FnSchedulesSaid : Prop := fnSchedulesRow.holds Tryd.pinned (OpenSpec.ofChange fnSchedulesSpec)

/-- ITS FALSE NEIGHBOUR: 'it returns false'. Refute it at one input. -/
def fnSchedulesWrong : ChangeSpec := { name := "fnSchedules", vars := ["loop.example/g00062/impl.errMany", "loop.example/g00062/impl.errBounds", "loop.example/g00062/impl.errAfter", "loop.example/g00062/impl.errEarly", "loop.example/g00062/impl.errCrews"], fn := fun _ => fun
  | [d, g1, g2, g3, g4, g5] => { results := [.lit (.bool false)], args := [d], vars := [g1, g2, g3, g4, g5] }
  | _ => none }
def FnSchedulesWrongFalsely : Prop := fnSchedulesRow.holds Tryd.pinned (OpenSpec.ofChange fnSchedulesWrong)

/-- 'laws.FnExactCritical': WHATEVER THE INPUT: true; the input reads as it did. -/
def fnExactCriticalSpec : ChangeSpec := { name := "fnExactCritical", vars := ["loop.example/g00062/impl.errMany", "loop.example/g00062/impl.errBounds", "loop.example/g00062/impl.errAfter"], fn := fun _ => fun
  | [d, g1, g2, g3] => { results := [.lit (.bool true)], args := [d], vars := [g1, g2, g3] }
  | _ => none }
def fnExactCriticalRow : OpenClaim := { program := "ytffjhbgnhnnfiaadoor", sum := "ee2f54660ced897ddfbaaf2cde30b9adbfaec2fdceb56e70124aa410b087ce77", func := "loop.example/g00062/laws.FnExactCritical", spec := "fnExactCritical", inPlace := ["internal/reflectlite.ValueOf", "(internal/reflectlite.Value).Type", "(internal/reflectlite.Value).IsNil", "internal/reflectlite.TypeOf", "(internal/reflectlite.Value).Elem", "(internal/reflectlite.Value).Set"], unfollowed := true, recurses := true, named := ["loop.example/g00062/impl.errMany", "loop.example/g00062/impl.errBounds", "loop.example/g00062/impl.errAfter", "errors.errorType"], ifaces := true, apart := false, laid := [("errors.errorType", laid_errors_errorType), ("loop.example/g00062/impl.errMany", laid_loop_example_g00062_impl_errMany), ("loop.example/g00062/impl.errBounds", laid_loop_example_g00062_impl_errBounds), ("loop.example/g00062/impl.errAfter", laid_loop_example_g00062_impl_errAfter)] }
def FnExactCriticalSaid : Prop := fnExactCriticalRow.holds Tryd.pinned (OpenSpec.ofChange fnExactCriticalSpec)

/-- ITS FALSE NEIGHBOUR: 'it returns false'. Refute it at one input. -/
def fnExactCriticalWrong : ChangeSpec := { name := "fnExactCritical", vars := ["loop.example/g00062/impl.errMany", "loop.example/g00062/impl.errBounds", "loop.example/g00062/impl.errAfter"], fn := fun _ => fun
  | [d, g1, g2, g3] => { results := [.lit (.bool false)], args := [d], vars := [g1, g2, g3] }
  | _ => none }
def FnExactCriticalWrongFalsely : Prop := fnExactCriticalRow.holds Tryd.pinned (OpenSpec.ofChange fnExactCriticalWrong)

/-- 'laws.FnExactScheduleOk': WHATEVER THE INPUT: true; the input reads as it did. -/
def fnExactScheduleOkSpec : ChangeSpec := { name := "fnExactScheduleOk", vars := ["loop.example/g00062/impl.errMany", "loop.example/g00062/impl.errBounds", "loop.example/g00062/impl.errAfter", "loop.example/g00062/impl.errEarly", "loop.example/g00062/impl.errCrews"], fn := fun _ => fun
  | [d1, d2, d3, g1, g2, g3, g4, g5] => { results := [.lit (.bool true)], args := [d1, d2, d3], vars := [g1, g2, g3, g4, g5] }
  | _ => none }
def fnExactScheduleOkRow : OpenClaim := { program := "ytffjhbgnhnnfiaadoor", sum := "ee2f54660ced897ddfbaaf2cde30b9adbfaec2fdceb56e70124aa410b087ce77", func := "loop.example/g00062/laws.FnExactScheduleOk", spec := "fnExactScheduleOk", inPlace := ["internal/reflectlite.ValueOf", "(internal/reflectlite.Value).Type", "(internal/reflectlite.Value).IsNil", "internal/reflectlite.TypeOf", "(internal/reflectlite.Value).Elem", "(internal/reflectlite.Value).Set"], unfollowed := true, recurses := true, named := ["loop.example/g00062/impl.errMany", "loop.example/g00062/impl.errBounds", "loop.example/g00062/impl.errAfter", "errors.errorType", "loop.example/g00062/impl.errEarly", "loop.example/g00062/impl.errCrews"], ifaces := true, apart := false, laid := [("errors.errorType", laid_errors_errorType), ("loop.example/g00062/impl.errMany", laid_loop_example_g00062_impl_errMany), ("loop.example/g00062/impl.errBounds", laid_loop_example_g00062_impl_errBounds), ("loop.example/g00062/impl.errAfter", laid_loop_example_g00062_impl_errAfter), ("loop.example/g00062/impl.errEarly", laid_loop_example_g00062_impl_errEarly), ("loop.example/g00062/impl.errCrews", laid_loop_example_g00062_impl_errCrews)] }
def FnExactScheduleOkSaid : Prop := fnExactScheduleOkRow.holds Tryd.pinned (OpenSpec.ofChange fnExactScheduleOkSpec)

/-- ITS FALSE NEIGHBOUR: 'it returns false'. Refute it at one input. -/
def fnExactScheduleOkWrong : ChangeSpec := { name := "fnExactScheduleOk", vars := ["loop.example/g00062/impl.errMany", "loop.example/g00062/impl.errBounds", "loop.example/g00062/impl.errAfter", "loop.example/g00062/impl.errEarly", "loop.example/g00062/impl.errCrews"], fn := fun _ => fun
  | [d1, d2, d3, g1, g2, g3, g4, g5] => { results := [.lit (.bool false)], args := [d1, d2, d3], vars := [g1, g2, g3, g4, g5] }
  | _ => none }
def FnExactScheduleOkWrongFalsely : Prop := fnExactScheduleOkRow.holds Tryd.pinned (OpenSpec.ofChange fnExactScheduleOkWrong)

/-- 'laws.FnExactSchedule': WHATEVER THE INPUT: true; the input reads as it did. -/
def fnExactScheduleSpec : ChangeSpec := { name := "fnExactSchedule", vars := ["loop.example/g00062/impl.errMany", "loop.example/g00062/impl.errBounds", "loop.example/g00062/impl.errAfter"], fn := fun _ => fun
  | [d1, d2, g1, g2, g3] => { results := [.lit (.bool true)], args := [d1, d2], vars := [g1, g2, g3] }
  | _ => none }
def fnExactScheduleRow : OpenClaim := { program := "ytffjhbgnhnnfiaadoor", sum := "ee2f54660ced897ddfbaaf2cde30b9adbfaec2fdceb56e70124aa410b087ce77", func := "loop.example/g00062/laws.FnExactSchedule", spec := "fnExactSchedule", inPlace := ["internal/reflectlite.ValueOf", "(internal/reflectlite.Value).Type", "(internal/reflectlite.Value).IsNil", "internal/reflectlite.TypeOf", "(internal/reflectlite.Value).Elem", "(internal/reflectlite.Value).Set"], unfollowed := true, recurses := true, named := ["loop.example/g00062/impl.errMany", "loop.example/g00062/impl.errBounds", "loop.example/g00062/impl.errAfter", "errors.errorType"], ifaces := true, apart := false, laid := [("errors.errorType", laid_errors_errorType), ("loop.example/g00062/impl.errMany", laid_loop_example_g00062_impl_errMany), ("loop.example/g00062/impl.errBounds", laid_loop_example_g00062_impl_errBounds), ("loop.example/g00062/impl.errAfter", laid_loop_example_g00062_impl_errAfter)] }
def FnExactScheduleSaid : Prop := fnExactScheduleRow.holds Tryd.pinned (OpenSpec.ofChange fnExactScheduleSpec)

/-- ITS FALSE NEIGHBOUR: 'it returns false'. Refute it at one input. -/
def fnExactScheduleWrong : ChangeSpec := { name := "fnExactSchedule", vars := ["loop.example/g00062/impl.errMany", "loop.example/g00062/impl.errBounds", "loop.example/g00062/impl.errAfter"], fn := fun _ => fun
  | [d1, d2, g1, g2, g3] => { results := [.lit (.bool false)], args := [d1, d2], vars := [g1, g2, g3] }
  | _ => none }
def FnExactScheduleWrongFalsely : Prop := fnExactScheduleRow.holds Tryd.pinned (OpenSpec.ofChange fnExactScheduleWrong)

/- THE SECOND FORM. 'bulk': how many values and letters a reading holds, each counted each time it is reached (what is shared counts as often as it is met; a slice's spare places count too). A statement '..UptoSaid' is the law's where the arguments, and the package variables that the reading takes, are together of bulk at most 1048576: NARROWER than '..Said'. Prove '..Said' where nothing that the law and all that it calls make is longer than what came in: it says more and counts as full. Else prove '..UptoSaid'. A law counts once. -/
mutual
def uptoBulk {H : Type} : DataW H → Nat
  | .lit (.string bytes) => bytes.length + 1
  | .lit _ => 1
  | .nil => 1
  | .ptr d => uptoBulk d + 1
  | .slice elems spare => uptoBulkAll elems + uptoBulkAll spare + 1
  | .agg parts => uptoBulkAll parts + 1
  | .iface _ d => uptoBulk d + 1
  | .map entries => uptoBulkEntries entries + 1
  | .held _ => 1
def uptoBulkAll {H : Type} : List (DataW H) → Nat
  | [] => 0
  | d :: r => uptoBulk d + uptoBulkAll r
def uptoBulkEntries {H : Type} : List (Lit × DataW H) → Nat
  | [] => 0
  | x :: r => uptoBulkEntry x + uptoBulkEntries r
def uptoBulkEntry {H : Type} : Lit × DataW H → Nat
  | (.string bytes, d) => bytes.length + uptoBulk d + 1
  | (_, d) => uptoBulk d + 1
 end
def uptoSmall : (H : Type) → List (DataW H) → Bool := fun _ ds => decide (uptoBulkAll ds ≤ 1048576)
def OpenSpec.upto (s : _root_.Go.ChangeSpec) : _root_.Go.OpenSpec := { _root_.Go.OpenSpec.ofChange s with cond := some uptoSmall }

/-- 'laws.FnSchedules', WHERE WHAT IT READS IS OF BULK AT MOST 1048576: true; the input reads as it did. -/
def fnSchedulesUptoRow : OpenClaim := { program := "ytffjhbgnhnnfiaadoor", sum := "ee2f54660ced897ddfbaaf2cde30b9adbfaec2fdceb56e70124aa410b087ce77", func := "loop.example/g00062/laws.FnSchedules", spec := "fnSchedules", inPlace := ["internal/reflectlite.ValueOf", "(internal/reflectlite.Value).Type", "(internal/reflectlite.Value).IsNil", "internal/reflectlite.TypeOf", "(internal/reflectlite.Value).Elem", "(internal/reflectlite.Value).Set"], unfollowed := true, recurses := true, named := ["loop.example/g00062/impl.errMany", "loop.example/g00062/impl.errBounds", "loop.example/g00062/impl.errAfter", "errors.errorType", "loop.example/g00062/impl.errEarly", "loop.example/g00062/impl.errCrews"], ifaces := true, apart := false, laid := [("errors.errorType", laid_errors_errorType), ("loop.example/g00062/impl.errMany", laid_loop_example_g00062_impl_errMany), ("loop.example/g00062/impl.errBounds", laid_loop_example_g00062_impl_errBounds), ("loop.example/g00062/impl.errAfter", laid_loop_example_g00062_impl_errAfter), ("loop.example/g00062/impl.errEarly", laid_loop_example_g00062_impl_errEarly), ("loop.example/g00062/impl.errCrews", laid_loop_example_g00062_impl_errCrews)], narrowed := true }
def FnSchedulesUptoSaid : Prop := fnSchedulesUptoRow.holds Tryd.pinned (OpenSpec.upto fnSchedulesSpec)

/-- 'laws.FnExactCritical', WHERE WHAT IT READS IS OF BULK AT MOST 1048576: true; the input reads as it did. -/
def fnExactCriticalUptoRow : OpenClaim := { program := "ytffjhbgnhnnfiaadoor", sum := "ee2f54660ced897ddfbaaf2cde30b9adbfaec2fdceb56e70124aa410b087ce77", func := "loop.example/g00062/laws.FnExactCritical", spec := "fnExactCritical", inPlace := ["internal/reflectlite.ValueOf", "(internal/reflectlite.Value).Type", "(internal/reflectlite.Value).IsNil", "internal/reflectlite.TypeOf", "(internal/reflectlite.Value).Elem", "(internal/reflectlite.Value).Set"], unfollowed := true, recurses := true, named := ["loop.example/g00062/impl.errMany", "loop.example/g00062/impl.errBounds", "loop.example/g00062/impl.errAfter", "errors.errorType"], ifaces := true, apart := false, laid := [("errors.errorType", laid_errors_errorType), ("loop.example/g00062/impl.errMany", laid_loop_example_g00062_impl_errMany), ("loop.example/g00062/impl.errBounds", laid_loop_example_g00062_impl_errBounds), ("loop.example/g00062/impl.errAfter", laid_loop_example_g00062_impl_errAfter)], narrowed := true }
def FnExactCriticalUptoSaid : Prop := fnExactCriticalUptoRow.holds Tryd.pinned (OpenSpec.upto fnExactCriticalSpec)

/-- 'laws.FnExactScheduleOk', WHERE WHAT IT READS IS OF BULK AT MOST 1048576: true; the input reads as it did. -/
def fnExactScheduleOkUptoRow : OpenClaim := { program := "ytffjhbgnhnnfiaadoor", sum := "ee2f54660ced897ddfbaaf2cde30b9adbfaec2fdceb56e70124aa410b087ce77", func := "loop.example/g00062/laws.FnExactScheduleOk", spec := "fnExactScheduleOk", inPlace := ["internal/reflectlite.ValueOf", "(internal/reflectlite.Value).Type", "(internal/reflectlite.Value).IsNil", "internal/reflectlite.TypeOf", "(internal/reflectlite.Value).Elem", "(internal/reflectlite.Value).Set"], unfollowed := true, recurses := true, named := ["loop.example/g00062/impl.errMany", "loop.example/g00062/impl.errBounds", "loop.example/g00062/impl.errAfter", "errors.errorType", "loop.example/g00062/impl.errEarly", "loop.example/g00062/impl.errCrews"], ifaces := true, apart := false, laid := [("errors.errorType", laid_errors_errorType), ("loop.example/g00062/impl.errMany", laid_loop_example_g00062_impl_errMany), ("loop.example/g00062/impl.errBounds", laid_loop_example_g00062_impl_errBounds), ("loop.example/g00062/impl.errAfter", laid_loop_example_g00062_impl_errAfter), ("loop.example/g00062/impl.errEarly", laid_loop_example_g00062_impl_errEarly), ("loop.example/g00062/impl.errCrews", laid_loop_example_g00062_impl_errCrews)], narrowed := true }
def FnExactScheduleOkUptoSaid : Prop := fnExactScheduleOkUptoRow.holds Tryd.pinned (OpenSpec.upto fnExactScheduleOkSpec)

/-- 'laws.FnExactSchedule', WHERE WHAT IT READS IS OF BULK AT MOST 1048576: true; the input reads as it did. -/
def fnExactScheduleUptoRow : OpenClaim := { program := "ytffjhbgnhnnfiaadoor", sum := "ee2f54660ced897ddfbaaf2cde30b9adbfaec2fdceb56e70124aa410b087ce77", func := "loop.example/g00062/laws.FnExactSchedule", spec := "fnExactSchedule", inPlace := ["internal/reflectlite.ValueOf", "(internal/reflectlite.Value).Type", "(internal/reflectlite.Value).IsNil", "internal/reflectlite.TypeOf", "(internal/reflectlite.Value).Elem", "(internal/reflectlite.Value).Set"], unfollowed := true, recurses := true, named := ["loop.example/g00062/impl.errMany", "loop.example/g00062/impl.errBounds", "loop.example/g00062/impl.errAfter", "errors.errorType"], ifaces := true, apart := false, laid := [("errors.errorType", laid_errors_errorType), ("loop.example/g00062/impl.errMany", laid_loop_example_g00062_impl_errMany), ("loop.example/g00062/impl.errBounds", laid_loop_example_g00062_impl_errBounds), ("loop.example/g00062/impl.errAfter", laid_loop_example_g00062_impl_errAfter)], narrowed := true }
def FnExactScheduleUptoSaid : Prop := fnExactScheduleUptoRow.holds Tryd.pinned (OpenSpec.upto fnExactScheduleSpec)

end Rows
end Go.Proofs.YtffjhbgnhnnfiaaDoor
