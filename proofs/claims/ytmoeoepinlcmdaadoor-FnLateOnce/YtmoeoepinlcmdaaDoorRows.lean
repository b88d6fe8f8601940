/-
  NARROWER THAN 'FOR EVERY INPUT', by the rows' own cells (each row's printed sentence says how): FnLateOnce: ifaces, laid · FnExactClockStep: ifaces, laid · FnExactSoonestLate: ifaces, laid.
  DERIVED. THE GIVEN ROWS OF THIS SEAT. 3 by the template 'for every input the law returns true; each argument reads behind the call as it read before'; 0 by the template 'total and deterministic' (their statements: YtmoeoepinlcmdaaDoorTotals.lean).
  GIVEN WITH THE SEED: the statements are not yours to turn. If you find one false, say at which input.
  Laid BY PROGRAM, IN A SANDBOX (cutbox-rows.mjs): the forced cells as the released guide's own fill.sh prints them over the translation 7feb41cd651e0d1b… (all of the seat's roots in one cut). By AI agents, Wed Nov 11 2026. No macro, syntax, notation, axiom, sorry.
-/
import Derived.Test.YtmoeoepinlcmdaaDoorChecked
import GoSem.Claim
import GoSem.ClaimJoined
import GoSem.ClaimMapViews
import Derived.JoinedTies
import Derived.KernelRfl
namespace Go.Proofs.YtmoeoepinlcmdaaDoor
/- THE CELL 'sum', in the pinned program and in every row, IS THE sha256 OF THE DUMP (.gsa) THAT YtmoeoepinlcmdaaDoorProg.lean LOADS. Nothing in Lean hashes anything: it is a label: what it is worth is what the hold of that sum in a sandbox is worth. -/
noncomputable def Tryd.pinned : Pinned := { name := "ytmoeoepinlcmdaadoor", sum := "7feb41cd651e0d1b7567a6bdd5008bbb1edac2b29bfa12a78b1c2e34102e24fd", checked := Tryd.checked }
namespace Rows
def none {H : Type} : Left H := { results := [], args := [] }

/- WHAT THE LISTED PACKAGE-LEVEL VARIABLES READ AS WHEN THE CALL BEGINS. Each datum BY PROGRAM (the guide's laid-datum.mjs) off the statement by which the dump's own 'gosem.cut.vars' lays the variable. In a bare row this is a premise. The card (YtmoeoepinlcmdaaDoorCards.lean) ties it to the program's text. -/
def laid_errors_errorType {H : Type} : DataW H := .iface "internal/reflectlite.rtype" (.agg [.ptr (.lit (.string [101, 114, 114, 111, 114]))])
def laid_loop_example_g00062_impl_errMany {H : Type} : DataW H := .iface "*errors.errorString" (.ptr (.agg [.lit (.string [110, 111, 116, 32, 97, 115, 32, 109, 97, 110, 121, 32, 97, 115, 32, 116, 104, 101, 114, 101, 32, 109, 97, 121, 32, 98, 101])]))
def laid_loop_example_g00062_impl_errBounds {H : Type} : DataW H := .iface "*errors.errorString" (.ptr (.agg [.lit (.string [97, 32, 110, 117, 109, 98, 101, 114, 32, 116, 104, 97, 116, 32, 105, 115, 32, 111, 117, 116, 32, 111, 102, 32, 105, 116, 115, 32, 98, 111, 117, 110, 100, 115])]))
def laid_loop_example_g00062_impl_errClock {H : Type} : DataW H := .iface "*errors.errorString" (.ptr (.agg [.lit (.string [97, 32, 99, 108, 111, 99, 107, 32, 116, 104, 97, 116, 32, 100, 111, 101, 115, 32, 110, 111, 116, 32, 98, 101, 108, 111, 110, 103, 32, 116, 111, 32, 105, 116, 115, 32, 108, 105, 109, 105, 116])]))

/-- 'laws.FnLateOnce': WHATEVER THE INPUT: true; the input reads as it did. -/
def fnLateOnceSpec : ChangeSpec := { name := "fnLateOnce", vars := ["loop.example/g00062/impl.errMany", "loop.example/g00062/impl.errBounds", "loop.example/g00062/impl.errClock"], fn := fun _ => fun
  | [d1, d2, g1, g2, g3] => { results := [.lit (.bool true)], args := [d1, d2], vars := [g1, g2, g3] }
  | _ => none }
def fnLateOnceRow : OpenClaim := { program := "ytmoeoepinlcmdaadoor", sum := "7feb41cd651e0d1b7567a6bdd5008bbb1edac2b29bfa12a78b1c2e34102e24fd", func := "loop.example/g00062/laws.FnLateOnce", spec := "fnLateOnce", inPlace := ["internal/reflectlite.ValueOf", "(internal/reflectlite.Value).Type", "(internal/reflectlite.Value).IsNil", "internal/reflectlite.TypeOf", "(internal/reflectlite.Value).Elem", "(internal/reflectlite.Value).Set"], unfollowed := true, recurses := true, named := ["loop.example/g00062/impl.errMany", "loop.example/g00062/impl.errBounds", "loop.example/g00062/impl.errClock", "errors.errorType"], ifaces := true, apart := false, laid := [("errors.errorType", laid_errors_errorType), ("loop.example/g00062/impl.errMany", laid_loop_example_g00062_impl_errMany), ("loop.example/g00062/impl.errBounds", laid_loop_example_g00062_impl_errBounds), ("loop.example/g00062/impl.errClock", laid_loop_example_g00062_impl_errClock)] }
def FnLateOnceSaid : Prop := fnLateOnceRow.holds Tryd.pinned (OpenSpec.ofChange fnLateOnceSpec)

/-- ITS FALSE NEIGHBOUR: 'it returns false'. Refute it at one input. -/
def fnLateOnceWrong : ChangeSpec := { name := "fnLateOnce", vars := ["loop.example/g00062/impl.errMany", "loop.example/g00062/impl.errBounds", "loop.example/g00062/impl.errClock"], fn := fun _ => fun
  | [d1, d2, g1, g2, g3] => { results := [.lit (.bool false)], args := [d1, d2], vars := [g1, g2, g3] }
  | _ => none }
def FnLateOnceWrongFalsely : Prop := fnLateOnceRow.holds Tryd.pinned (OpenSpec.ofChange fnLateOnceWrong)

/-- 'laws.FnExactClockStep': WHATEVER THE INPUT: true; the input reads as it did. -/
def fnExactClockStepSpec : ChangeSpec := { name := "fnExactClockStep", vars := ["loop.example/g00062/impl.errMany", "loop.example/g00062/impl.errBounds", "loop.example/g00062/impl.errClock"], fn := fun _ => fun
  | [d1, d2, d3, d4, g1, g2, g3] => { results := [.lit (.bool true)], args := [d1, d2, d3, d4], vars := [g1, g2, g3] }
  | _ => none }
def fnExactClockStepRow : OpenClaim := { program := "ytmoeoepinlcmdaadoor", sum := "7feb41cd651e0d1b7567a6bdd5008bbb1edac2b29bfa12a78b1c2e34102e24fd", func := "loop.example/g00062/laws.FnExactClockStep", spec := "fnExactClockStep", inPlace := ["internal/reflectlite.ValueOf", "(internal/reflectlite.Value).Type", "(internal/reflectlite.Value).IsNil", "internal/reflectlite.TypeOf", "(internal/reflectlite.Value).Elem", "(internal/reflectlite.Value).Set"], unfollowed := true, recurses := true, named := ["loop.example/g00062/impl.errMany", "loop.example/g00062/impl.errBounds", "loop.example/g00062/impl.errClock", "errors.errorType"], ifaces := true, apart := false, laid := [("errors.errorType", laid_errors_errorType), ("loop.example/g00062/impl.errMany", laid_loop_example_g00062_impl_errMany), ("loop.example/g00062/impl.errBounds", laid_loop_example_g00062_impl_errBounds), ("loop.example/g00062/impl.errClock", laid_loop_example_g00062_impl_errClock)] }
def FnExactClockStepSaid : Prop := fnExactClockStepRow.holds Tryd.pinned (OpenSpec.ofChange fnExactClockStepSpec)

/-- ITS FALSE NEIGHBOUR: 'it returns false'. Refute it at one input. -/
def fnExactClockStepWrong : ChangeSpec := { name := "fnExactClockStep", vars := ["loop.example/g00062/impl.errMany", "loop.example/g00062/impl.errBounds", "loop.example/g00062/impl.errClock"], fn := fun _ => fun
  | [d1, d2, d3, d4, g1, g2, g3] => { results := [.lit (.bool false)], args := [d1, d2, d3, d4], vars := [g1, g2, g3] }
  | _ => none }
def FnExactClockStepWrongFalsely : Prop := fnExactClockStepRow.holds Tryd.pinned (OpenSpec.ofChange fnExactClockStepWrong)

/-- 'laws.FnExactSoonestLate': WHATEVER THE INPUT: true; the input reads as it did. -/
def fnExactSoonestLateSpec : ChangeSpec := { name := "fnExactSoonestLate", vars := ["loop.example/g00062/impl.errMany", "loop.example/g00062/impl.errBounds", "loop.example/g00062/impl.errClock"], fn := fun _ => fun
  | [d1, d2, g1, g2, g3] => { results := [.lit (.bool true)], args := [d1, d2], vars := [g1, g2, g3] }
  | _ => none }
def fnExactSoonestLateRow : OpenClaim := { program := "ytmoeoepinlcmdaadoor", sum := "7feb41cd651e0d1b7567a6bdd5008bbb1edac2b29bfa12a78b1c2e34102e24fd", func := "loop.example/g00062/laws.FnExactSoonestLate", spec := "fnExactSoonestLate", inPlace := ["internal/reflectlite.ValueOf", "(internal/reflectlite.Value).Type", "(internal/reflectlite.Value).IsNil", "internal/reflectlite.TypeOf", "(internal/reflectlite.Value).Elem", "(internal/reflectlite.Value).Set"], unfollowed := true, recurses := true, named := ["loop.example/g00062/impl.errMany", "loop.example/g00062/impl.errBounds", "loop.example/g00062/impl.errClock", "errors.errorType"], ifaces := true, apart := false, laid := [("errors.errorType", laid_errors_errorType), ("loop.example/g00062/impl.errMany", laid_loop_example_g00062_impl_errMany), ("loop.example/g00062/impl.errBounds", laid_loop_example_g00062_impl_errBounds), ("loop.example/g00062/impl.errClock", laid_loop_example_g00062_impl_errClock)] }
def FnExactSoonestLateSaid : Prop := fnExactSoonestLateRow.holds Tryd.pinned (OpenSpec.ofChange fnExactSoonestLateSpec)

/-- ITS FALSE NEIGHBOUR: 'it returns false'. Refute it at one input. -/
def fnExactSoonestLateWrong : ChangeSpec := { name := "fnExactSoonestLate", vars := ["loop.example/g00062/impl.errMany", "loop.example/g00062/impl.errBounds", "loop.example/g00062/impl.errClock"], fn := fun _ => fun
  | [d1, d2, g1, g2, g3] => { results := [.lit (.bool false)], args := [d1, d2], vars := [g1, g2, g3] }
  | _ => none }
def FnExactSoonestLateWrongFalsely : Prop := fnExactSoonestLateRow.holds Tryd.pinned (OpenSpec.ofChange fnExactSoonestLateWrong)

/- THE SECOND FORM. 'bulk': how many values and letters a reading holds, each counted each time it is reached (what is shared counts as often as it is met; a slice's spare places count too). A statement '..UptoSaid' is the law's where the arguments, and the package variables that the reading takes, are together of bulk at most 1048576: NARROWER than '..Said'. Prove '..Said' where nothing that the law and all that it calls make is longer than what came in: it says more and counts as full. Else prove '..UptoSaid'. A law counts once. -/
mutual
def uptoBulk {H : Type} : DataW H → Nat
  | .lit (.string bytes) => bytes.length + 1
  | .lit _ => 1
  | .nil => 1
  | .ptr d => uptoBulk d + 1
  | .slice elems spare => uptoBulkAll elems + uptoBulkAll spare + 1
  | .agg parts => uptoBulkAll parts + 1
  | .iface _ d => uptoBulk d + 1
  | .map entries => uptoBulkEntries entries + 1
  | .held _ => 1
def uptoBulkAll {H : Type} : List (DataW H) → Nat
  | [] => 0
  | d :: r => uptoBulk d + uptoBulkAll r
def uptoBulkEntries {H : Type} : List (Lit × DataW H) → Nat
  | [] => 0
  | x :: r => uptoBulkEntry x + uptoBulkEntries r
def uptoBulkEntry {H : Type} : Lit × DataW H → Nat
  | (.string bytes, d) => bytes.length + uptoBulk d + 1
  | (_, d) => uptoBulk d + 1
 end
def uptoSmall : (H : Type) → List (DataW H) → Bool := fun _ ds => decide (uptoBulkAll ds ≤ 1048576)
def OpenSpec.upto (s : _root_.Go.ChangeSpec) : _root_.Go.OpenSpec := { _root_.Go.OpenSpec.ofChange s with cond := some uptoSmall }

/-- 'laws.FnLateOnce', WHERE WHAT IT READS IS OF BULK AT MOST 1048576: true; the input reads as it did. -/
def fnLateOnceUptoRow : OpenClaim := { program := "ytmoeoepinlcmdaadoor", sum := "7feb41cd651e0d1b7567a6bdd5008bbb1edac2b29bfa12a78b1c2e34102e24fd", func := "loop.example/g00062/laws.FnLateOnce", spec := "fnLateOnce", inPlace := ["internal/reflectlite.ValueOf", "(internal/reflectlite.Value).Type", "(internal/reflectlite.Value).IsNil", "internal/reflectlite.TypeOf", "(internal/reflectlite.Value).Elem", "(internal/reflectlite.Value).Set"], unfollowed := true, recurses := true, named := ["loop.example/g00062/impl.errMany", "loop.example/g00062/impl.errBounds", "loop.example/g00062/impl.errClock", "errors.errorType"], ifaces := true, apart := false, laid := [("errors.errorType", laid_errors_errorType), ("loop.example/g00062/impl.errMany", laid_loop_example_g00062_impl_errMany), ("loop.example/g00062/impl.errBounds", laid_loop_example_g00062_impl_errBounds), ("loop.example/g00062/impl.errClock", laid_loop_example_g00062_impl_errClock)], narrowed := true }
def FnLateOnceUptoSaid : Prop := fnLateOnceUptoRow.holds Tryd.pinned (OpenSpec.upto fnLateOnceSpec)

/-- 'laws.FnExactClockStep', WHERE WHAT IT READS IS OF BULK AT MOST 1048576: true; the input reads as it did. -/
def fnExactClockStepUptoRow : OpenClaim := { program := "ytmoeoepinlcmdaadoor", sum := "7feb41cd651e0d1b7567a6bdd5008bbb1edac2b29bfa12a78b1c2e34102e24fd", func := "loop.example/g00062/laws.FnExactClockStep", spec := "fnExactClockStep", inPlace := ["internal/reflectlite.ValueOf", "(internal/reflectlite.Value).Type", "(internal/reflectlite.Value).IsNil", "internal/reflectlite.TypeOf", "(internal/reflectlite.Value).Elem", "(internal/reflectlite.Value).Set"], unfollowed := true, recurses := true, named := ["loop.example/g00062/impl.errMany", "loop.example/g00062/impl.errBounds", "loop.example/g00062/impl.errClock", "errors.errorType"], ifaces := true, apart := false, laid := [("errors.errorType", laid_errors_errorType), ("loop.example/g00062/impl.errMany", laid_loop_example_g00062_impl_errMany), ("loop.example/g00062/impl.errBounds", laid_loop_example_g00062_impl_errBounds), ("loop.example/g00062/impl.errClock", laid_loop_example_g00062_impl_errClock)], narrowed := true }
def FnExactClockStepUptoSaid : Prop := fnExactClockStepUptoRow.holds Tryd.pinned (OpenSpec.upto fnExactClockStepSpec)

/-- 'laws.FnExactSoonestLate', WHERE WHAT IT READS IS OF BULK AT MOST 1048576: true; the input reads as it did. -/
def fnExactSoonestLateUptoRow : OpenClaim := { program := "ytmoeoepinlcmdaadoor", sum := "7feb41cd651e0d1b7567a6bdd5008bbb1edac2b29bfa12a78b1c2e34102e24fd", func := "loop.example/g00062/laws.FnExactSoonestLate", spec := "fnExactSoonestLate", inPlace := ["internal/reflectlite.ValueOf", "(internal/reflectlite.Value).Type", "(internal/reflectlite.Value).IsNil", "internal/reflectlite.TypeOf", "(internal/reflectlite.Value).Elem", "(internal/reflectlite.Value).Set"], unfollowed := true, recurses := true, named := ["loop.example/g00062/impl.errMany", "loop.example/g00062/impl.errBounds", "loop.example/g00062/impl.errClock", "errors.errorType"], ifaces := true, apart := false, laid := [("errors.errorType", laid_errors_errorType), ("loop.example/g00062/impl.errMany", laid_loop_example_g00062_impl_errMany), ("loop.example/g00062/impl.errBounds", laid_loop_example_g00062_impl_errBounds), ("loop.example/g00062/impl.errClock", laid_loop_example_g00062_impl_errClock)], narrowed := true }
def FnExactSoonestLateUptoSaid : Prop := fnExactSoonestLateUptoRow.holds Tryd.pinned (OpenSpec.upto fnExactSoonestLateSpec)

end Rows
end Go.Proofs.YtmoeoepinlcmdaaDoor
