/-
  DERIVED. GIVEN WITH THE SEED: THE PROGRAM's TIES (one call each: nine closed facts by the kernel) AND EACH ROW's TIE, after the 31st guide's Derived/Test/Toyas{Tie, Card}.lean. No idea stands in it: it is a product of the set-up. Laid BY PROGRAM, IN A SANDBOX (cutbox-door.mjs). By AI agents, Wed Nov 11 2026. No macro, syntax, notation, axiom, sorry.
-/
import Derived.Test.YtfhbkfdfggaomaaDoorRows
import Derived.LaidByTextLater
import Derived.SevenTiedAt
import Derived.LaidSub
import Derived.LaidOnce
namespace Go.Proofs.YtfhbkfdfggaomaaDoor
open Go
set_option maxRecDepth 100000
theorem seatTie1 : Tryd.prog.laidByTextLater [("errors.errorType", Rows.laid_errors_errorType), ("loop.example/g00062/impl.errMany", Rows.laid_loop_example_g00062_impl_errMany), ("loop.example/g00062/impl.errBounds", Rows.laid_loop_example_g00062_impl_errBounds), ("loop.example/g00062/impl.errClock", Rows.laid_loop_example_g00062_impl_errClock), ("loop.example/g00062/impl.errAfter", Rows.laid_loop_example_g00062_impl_errAfter), ("loop.example/g00062/impl.errEarly", Rows.laid_loop_example_g00062_impl_errEarly), ("loop.example/g00062/impl.errCrews", Rows.laid_loop_example_g00062_impl_errCrews)] [.handle, .sentinel, .sentinel, .sentinel, .sentinel, .sentinel, .sentinel] true :=
  Program.laidByTextLater_by_one 130 8 2 (by kernel_rfl) (by kernel_rfl) (by kernel_rfl) (by kernel_rfl) (by kernel_rfl) (by kernel_rfl) (fun _ _ => by kernel_rfl)
theorem noOwnUnsafe : Tryd.pinned.checked.prog.headLifts.contains "ownunsafe" = false := by kernel_rfl
theorem tie : Tryd.prog.laidByTextLater [("errors.errorType", Rows.laid_errors_errorType), ("loop.example/g00062/impl.errMany", Rows.laid_loop_example_g00062_impl_errMany), ("loop.example/g00062/impl.errBounds", Rows.laid_loop_example_g00062_impl_errBounds), ("loop.example/g00062/impl.errClock", Rows.laid_loop_example_g00062_impl_errClock)] [.handle, .sentinel, .sentinel, .sentinel] true :=
  Program.laidByTextLater.sub seatTie1 ["errors.errorType", "loop.example/g00062/impl.errMany", "loop.example/g00062/impl.errBounds", "loop.example/g00062/impl.errClock"] (by kernel_rfl) (by kernel_rfl)
theorem fnExactSoonestLate_row_tie : Rows.fnExactSoonestLateRow.laidByTextAt .later Tryd.pinned [.handle, .sentinel, .sentinel, .sentinel] true :=
  OpenClaim.laidByTextAt_later rfl rfl tie noOwnUnsafe
theorem fnExactClockStep_row_tie : Rows.fnExactClockStepRow.laidByTextAt .later Tryd.pinned [.handle, .sentinel, .sentinel, .sentinel] true :=
  OpenClaim.laidByTextAt_later rfl rfl tie noOwnUnsafe
theorem tie2 : Tryd.prog.laidByTextLater [("errors.errorType", Rows.laid_errors_errorType), ("loop.example/g00062/impl.errMany", Rows.laid_loop_example_g00062_impl_errMany), ("loop.example/g00062/impl.errBounds", Rows.laid_loop_example_g00062_impl_errBounds)] [.handle, .sentinel, .sentinel] true :=
  Program.laidByTextLater.sub seatTie1 ["errors.errorType", "loop.example/g00062/impl.errMany", "loop.example/g00062/impl.errBounds"] (by kernel_rfl) (by kernel_rfl)
theorem fnExactDueTests_row_tie : Rows.fnExactDueTestsRow.laidByTextAt .later Tryd.pinned [.handle, .sentinel, .sentinel] true :=
  OpenClaim.laidByTextAt_later rfl rfl tie2 noOwnUnsafe
theorem tie3 : Tryd.prog.laidByTextLater [("errors.errorType", Rows.laid_errors_errorType), ("loop.example/g00062/impl.errMany", Rows.laid_loop_example_g00062_impl_errMany), ("loop.example/g00062/impl.errBounds", Rows.laid_loop_example_g00062_impl_errBounds), ("loop.example/g00062/impl.errAfter", Rows.laid_loop_example_g00062_impl_errAfter)] [.handle, .sentinel, .sentinel, .sentinel] true :=
  Program.laidByTextLater.sub seatTie1 ["errors.errorType", "loop.example/g00062/impl.errMany", "loop.example/g00062/impl.errBounds", "loop.example/g00062/impl.errAfter"] (by kernel_rfl) (by kernel_rfl)
theorem fnExactCritical_row_tie : Rows.fnExactCriticalRow.laidByTextAt .later Tryd.pinned [.handle, .sentinel, .sentinel, .sentinel] true :=
  OpenClaim.laidByTextAt_later rfl rfl tie3 noOwnUnsafe
theorem fnExactSchedule_row_tie : Rows.fnExactScheduleRow.laidByTextAt .later Tryd.pinned [.handle, .sentinel, .sentinel, .sentinel] true :=
  OpenClaim.laidByTextAt_later rfl rfl tie3 noOwnUnsafe
theorem tie4 : Tryd.prog.laidByTextLater [("errors.errorType", Rows.laid_errors_errorType), ("loop.example/g00062/impl.errMany", Rows.laid_loop_example_g00062_impl_errMany), ("loop.example/g00062/impl.errBounds", Rows.laid_loop_example_g00062_impl_errBounds), ("loop.example/g00062/impl.errAfter", Rows.laid_loop_example_g00062_impl_errAfter), ("loop.example/g00062/impl.errEarly", Rows.laid_loop_example_g00062_impl_errEarly), ("loop.example/g00062/impl.errCrews", Rows.laid_loop_example_g00062_impl_errCrews)] [.handle, .sentinel, .sentinel, .sentinel, .sentinel, .sentinel] true :=
  Program.laidByTextLater.sub seatTie1 ["errors.errorType", "loop.example/g00062/impl.errMany", "loop.example/g00062/impl.errBounds", "loop.example/g00062/impl.errAfter", "loop.example/g00062/impl.errEarly", "loop.example/g00062/impl.errCrews"] (by kernel_rfl) (by kernel_rfl)
theorem fnExactScheduleOk_row_tie : Rows.fnExactScheduleOkRow.laidByTextAt .later Tryd.pinned [.handle, .sentinel, .sentinel, .sentinel, .sentinel, .sentinel] true :=
  OpenClaim.laidByTextAt_later rfl rfl tie4 noOwnUnsafe
theorem fnExactSoonestLateUpto_row_tie : Rows.fnExactSoonestLateUptoRow.laidByTextAt .later Tryd.pinned [.handle, .sentinel, .sentinel, .sentinel] true :=
  OpenClaim.laidByTextAt_later rfl rfl tie noOwnUnsafe
theorem fnExactClockStepUpto_row_tie : Rows.fnExactClockStepUptoRow.laidByTextAt .later Tryd.pinned [.handle, .sentinel, .sentinel, .sentinel] true :=
  OpenClaim.laidByTextAt_later rfl rfl tie noOwnUnsafe
theorem fnExactDueTestsUpto_row_tie : Rows.fnExactDueTestsUptoRow.laidByTextAt .later Tryd.pinned [.handle, .sentinel, .sentinel] true :=
  OpenClaim.laidByTextAt_later rfl rfl tie2 noOwnUnsafe
theorem fnExactCriticalUpto_row_tie : Rows.fnExactCriticalUptoRow.laidByTextAt .later Tryd.pinned [.handle, .sentinel, .sentinel, .sentinel] true :=
  OpenClaim.laidByTextAt_later rfl rfl tie3 noOwnUnsafe
theorem fnExactScheduleOkUpto_row_tie : Rows.fnExactScheduleOkUptoRow.laidByTextAt .later Tryd.pinned [.handle, .sentinel, .sentinel, .sentinel, .sentinel, .sentinel] true :=
  OpenClaim.laidByTextAt_later rfl rfl tie4 noOwnUnsafe
theorem fnExactScheduleUpto_row_tie : Rows.fnExactScheduleUptoRow.laidByTextAt .later Tryd.pinned [.handle, .sentinel, .sentinel, .sentinel] true :=
  OpenClaim.laidByTextAt_later rfl rfl tie3 noOwnUnsafe
end Go.Proofs.YtfhbkfdfggaomaaDoor
