/-
  DERIVED. GIVEN WITH THE SEED: THE PROGRAM's TIES (one call each: nine closed facts by the kernel) AND EACH ROW's TIE, after the 31st guide's Derived/Test/Toyas{Tie, Card}.lean. No idea stands in it: it is a product of the set-up. Laid BY PROGRAM, IN A SANDBOX (cutbox-door.mjs). By AI agents, Wed Nov 11 2026. No macro, syntax, notation, axiom, sorry.
-/
import Derived.Test.YtffjhbgnhnnfiaaDoorRows
import Derived.LaidByTextLater
import Derived.SevenTiedAt
import Derived.LaidSub
import Derived.LaidOnce
namespace Go.Proofs.YtffjhbgnhnnfiaaDoor
open Go
set_option maxRecDepth 100000
theorem seatTie1 : Tryd.prog.laidByTextLater [("errors.errorType", Rows.laid_errors_errorType), ("loop.example/g00062/impl.errMany", Rows.laid_loop_example_g00062_impl_errMany), ("loop.example/g00062/impl.errBounds", Rows.laid_loop_example_g00062_impl_errBounds), ("loop.example/g00062/impl.errAfter", Rows.laid_loop_example_g00062_impl_errAfter), ("loop.example/g00062/impl.errEarly", Rows.laid_loop_example_g00062_impl_errEarly), ("loop.example/g00062/impl.errCrews", Rows.laid_loop_example_g00062_impl_errCrews)] [.handle, .sentinel, .sentinel, .sentinel, .sentinel, .sentinel] true :=
  Program.laidByTextLater_by_one 111 8 2 (by kernel_rfl) (by kernel_rfl) (by kernel_rfl) (by kernel_rfl) (by kernel_rfl) (by kernel_rfl) (fun _ _ => by kernel_rfl)
theorem noOwnUnsafe : Tryd.pinned.checked.prog.headLifts.contains "ownunsafe" = false := by kernel_rfl
theorem tie : Tryd.prog.laidByTextLater [("errors.errorType", Rows.laid_errors_errorType), ("loop.example/g00062/impl.errMany", Rows.laid_loop_example_g00062_impl_errMany), ("loop.example/g00062/impl.errBounds", Rows.laid_loop_example_g00062_impl_errBounds), ("loop.example/g00062/impl.errAfter", Rows.laid_loop_example_g00062_impl_errAfter), ("loop.example/g00062/impl.errEarly", Rows.laid_loop_example_g00062_impl_errEarly), ("loop.example/g00062/impl.errCrews", Rows.laid_loop_example_g00062_impl_errCrews)] [.handle, .sentinel, .sentinel, .sentinel, .sentinel, .sentinel] true :=
  Program.laidByTextLater.sub seatTie1 ["errors.errorType", "loop.example/g00062/impl.errMany", "loop.example/g00062/impl.errBounds", "loop.example/g00062/impl.errAfter", "loop.example/g00062/impl.errEarly", "loop.example/g00062/impl.errCrews"] (by kernel_rfl) (by kernel_rfl)
theorem fnSchedules_row_tie : Rows.fnSchedulesRow.laidByTextAt .later Tryd.pinned [.handle, .sentinel, .sentinel, .sentinel, .sentinel, .sentinel] true :=
  OpenClaim.laidByTextAt_later rfl rfl tie noOwnUnsafe
theorem fnExactScheduleOk_row_tie : Rows.fnExactScheduleOkRow.laidByTextAt .later Tryd.pinned [.handle, .sentinel, .sentinel, .sentinel, .sentinel, .sentinel] true :=
  OpenClaim.laidByTextAt_later rfl rfl tie noOwnUnsafe
theorem tie2 : Tryd.prog.laidByTextLater [("errors.errorType", Rows.laid_errors_errorType), ("loop.example/g00062/impl.errMany", Rows.laid_loop_example_g00062_impl_errMany), ("loop.example/g00062/impl.errBounds", Rows.laid_loop_example_g00062_impl_errBounds), ("loop.example/g00062/impl.errAfter", Rows.laid_loop_example_g00062_impl_errAfter)] [.handle, .sentinel, .sentinel, .sentinel] true :=
  Program.laidByTextLater.sub seatTie1 ["errors.errorType", "loop.example/g00062/impl.errMany", "loop.example/g00062/impl.errBounds", "loop.example/g00062/impl.errAfter"] (by kernel_rfl) (by kernel_rfl)
theorem fnExactCritical_row_tie : Rows.fnExactCriticalRow.laidByTextAt .later Tryd.pinned [.handle, .sentinel, .sentinel, .sentinel] true :=
  OpenClaim.laidByTextAt_later rfl rfl tie2 noOwnUnsafe
theorem fnExactSchedule_row_tie : Rows.fnExactScheduleRow.laidByTextAt .later Tryd.pinned [.handle, .sentinel, .sentinel, .sentinel] true :=
  OpenClaim.laidByTextAt_later rfl rfl tie2 noOwnUnsafe
theorem fnSchedulesUpto_row_tie : Rows.fnSchedulesUptoRow.laidByTextAt .later Tryd.pinned [.handle, .sentinel, .sentinel, .sentinel, .sentinel, .sentinel] true :=
  OpenClaim.laidByTextAt_later rfl rfl tie noOwnUnsafe
theorem fnExactCriticalUpto_row_tie : Rows.fnExactCriticalUptoRow.laidByTextAt .later Tryd.pinned [.handle, .sentinel, .sentinel, .sentinel] true :=
  OpenClaim.laidByTextAt_later rfl rfl tie2 noOwnUnsafe
theorem fnExactScheduleOkUpto_row_tie : Rows.fnExactScheduleOkUptoRow.laidByTextAt .later Tryd.pinned [.handle, .sentinel, .sentinel, .sentinel, .sentinel, .sentinel] true :=
  OpenClaim.laidByTextAt_later rfl rfl tie noOwnUnsafe
theorem fnExactScheduleUpto_row_tie : Rows.fnExactScheduleUptoRow.laidByTextAt .later Tryd.pinned [.handle, .sentinel, .sentinel, .sentinel] true :=
  OpenClaim.laidByTextAt_later rfl rfl tie2 noOwnUnsafe
end Go.Proofs.YtffjhbgnhnnfiaaDoor
