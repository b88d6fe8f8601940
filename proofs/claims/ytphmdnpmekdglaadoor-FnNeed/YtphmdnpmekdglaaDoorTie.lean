/-
  DERIVED. GIVEN WITH THE SEED: THE PROGRAM's TIES (one call each: nine closed facts by the kernel) AND EACH ROW's TIE, after the 31st guide's Derived/Test/Toyas{Tie, Card}.lean. No idea stands in it: it is a product of the set-up. Laid BY PROGRAM, IN A SANDBOX (cutbox-door.mjs). By AI agents, Wed Nov 11 2026. No macro, syntax, notation, axiom, sorry.
-/
import Derived.Test.YtphmdnpmekdglaaDoorRows
import Derived.LaidByTextLater
import Derived.SevenTiedAt
import Derived.LaidSub
import Derived.LaidOnce
namespace Go.Proofs.YtphmdnpmekdglaaDoor
open Go
set_option maxRecDepth 100000
theorem seatTie1 : Tryd.prog.laidByTextLater [("loop.example/g00062/impl.molecules", Rows.laid_loop_example_g00062_impl_molecules), ("loop.example/g00062/impl.burnings", Rows.laid_loop_example_g00062_impl_burnings)] [.data, .data] true :=
  Program.laidByTextLater_by_one 41 8 55 (by kernel_rfl) (by kernel_rfl) (by kernel_rfl) (by kernel_rfl) (by kernel_rfl) (by kernel_rfl) (fun _ _ => by kernel_rfl)
theorem noOwnUnsafe : Tryd.pinned.checked.prog.headLifts.contains "ownunsafe" = false := by kernel_rfl
theorem tie : Tryd.prog.laidByTextLater [("loop.example/g00062/impl.molecules", Rows.laid_loop_example_g00062_impl_molecules), ("loop.example/g00062/impl.burnings", Rows.laid_loop_example_g00062_impl_burnings)] [.data, .data] true :=
  Program.laidByTextLater.sub seatTie1 ["loop.example/g00062/impl.molecules", "loop.example/g00062/impl.burnings"] (by kernel_rfl) (by kernel_rfl)
theorem fnAtoms_row_tie : Rows.fnAtomsRow.laidByTextAt .later Tryd.pinned [.data, .data] true :=
  OpenClaim.laidByTextAt_later rfl rfl tie noOwnUnsafe
theorem fnNeed_row_tie : Rows.fnNeedRow.laidByTextAt .later Tryd.pinned [.data, .data] true :=
  OpenClaim.laidByTextAt_later rfl rfl tie noOwnUnsafe
theorem tie2 : Tryd.prog.laidByTextLater [("loop.example/g00062/impl.burnings", Rows.laid_loop_example_g00062_impl_burnings)] [.data] true :=
  Program.laidByTextLater.sub seatTie1 ["loop.example/g00062/impl.burnings"] (by kernel_rfl) (by kernel_rfl)
theorem fnExactBurn_row_tie : Rows.fnExactBurnRow.laidByTextAt .later Tryd.pinned [.data] true :=
  OpenClaim.laidByTextAt_later rfl rfl tie2 noOwnUnsafe
theorem tie3 : Tryd.prog.laidByTextLater [("loop.example/g00062/impl.molecules", Rows.laid_loop_example_g00062_impl_molecules)] [.data] true :=
  Program.laidByTextLater.sub seatTie1 ["loop.example/g00062/impl.molecules"] (by kernel_rfl) (by kernel_rfl)
theorem fnExactElements_row_tie : Rows.fnExactElementsRow.laidByTextAt .later Tryd.pinned [.data] true :=
  OpenClaim.laidByTextAt_later rfl rfl tie3 noOwnUnsafe
theorem fnExactHeatOf_row_tie : Rows.fnExactHeatOfRow.laidByTextAt .later Tryd.pinned [.data] true :=
  OpenClaim.laidByTextAt_later rfl rfl tie3 noOwnUnsafe
theorem fnAtomsUpto_row_tie : Rows.fnAtomsUptoRow.laidByTextAt .later Tryd.pinned [.data, .data] true :=
  OpenClaim.laidByTextAt_later rfl rfl tie noOwnUnsafe
theorem fnNeedUpto_row_tie : Rows.fnNeedUptoRow.laidByTextAt .later Tryd.pinned [.data, .data] true :=
  OpenClaim.laidByTextAt_later rfl rfl tie noOwnUnsafe
theorem fnExactBurnUpto_row_tie : Rows.fnExactBurnUptoRow.laidByTextAt .later Tryd.pinned [.data] true :=
  OpenClaim.laidByTextAt_later rfl rfl tie2 noOwnUnsafe
theorem fnExactElementsUpto_row_tie : Rows.fnExactElementsUptoRow.laidByTextAt .later Tryd.pinned [.data] true :=
  OpenClaim.laidByTextAt_later rfl rfl tie3 noOwnUnsafe
theorem fnExactHeatOfUpto_row_tie : Rows.fnExactHeatOfUptoRow.laidByTextAt .later Tryd.pinned [.data] true :=
  OpenClaim.laidByTextAt_later rfl rfl tie3 noOwnUnsafe
end Go.Proofs.YtphmdnpmekdglaaDoor
