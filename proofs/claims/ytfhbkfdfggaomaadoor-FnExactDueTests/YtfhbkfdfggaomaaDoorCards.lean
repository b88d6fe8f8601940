/-
  DERIVED. GIVEN WITH THE SEED: THE CARDS: each row of YtfhbkfdfggaomaaDoorRows.lean that lists a variable, with what it lists TIED to the program's text (the seventh form; the later family's looks); each row that meets fmt, with fmt's text TOLD by the authors' own Lean function (tested against real Go, not proved from fmt's source: count such statements apart). THE CARD IS WHAT COUNTS. Prove the row's statement (the work); the ties are given (YtfhbkfdfggaomaaDoorTie.lean); close each card by the builder's one call (the guide's Derived/Test/ToyasCard.lean, 'card_holds'). Laid BY PROGRAM, IN A SANDBOX (cutbox-door.mjs). By AI agents, Wed Nov 11 2026. No macro, syntax, notation, axiom, sorry.
-/
import Derived.Test.YtfhbkfdfggaomaaDoorRows
import GoSem.ClaimSeven
namespace Go.Proofs.YtfhbkfdfggaomaaDoor
namespace Rows

/-- THE TIED CARD OF 'laws.FnExactSoonestLate'. -/
def fnExactSoonestLateCard : Claim7 := { stood := { row := fnExactSoonestLateRow, standIns := [], harness := (true, "5c8e4b72143f1888010163592674e0d15c59e3a48664ddb7e1ae4c528ffda612"), looks := true }, kinds := [], alts := [], laidByText := true, laidKinds := [.handle, .sentinel, .sentinel, .sentinel], laidTests := true, laidLooks := .later }
def FnExactSoonestLateCardSaid : Prop := Claim7.holds Tryd.pinned (.plain (OpenSpec.ofChange fnExactSoonestLateSpec)) fnExactSoonestLateCard

/-- THE TIED CARD OF 'laws.FnExactClockStep'. -/
def fnExactClockStepCard : Claim7 := { stood := { row := fnExactClockStepRow, standIns := [], harness := (true, "5c8e4b72143f1888010163592674e0d15c59e3a48664ddb7e1ae4c528ffda612"), looks := true }, kinds := [], alts := [], laidByText := true, laidKinds := [.handle, .sentinel, .sentinel, .sentinel], laidTests := true, laidLooks := .later }
def FnExactClockStepCardSaid : Prop := Claim7.holds Tryd.pinned (.plain (OpenSpec.ofChange fnExactClockStepSpec)) fnExactClockStepCard

/-- THE TIED CARD OF 'laws.FnExactDueTests'. -/
def fnExactDueTestsCard : Claim7 := { stood := { row := fnExactDueTestsRow, standIns := [], harness := (true, "5c8e4b72143f1888010163592674e0d15c59e3a48664ddb7e1ae4c528ffda612"), looks := true }, kinds := [], alts := [], laidByText := true, laidKinds := [.handle, .sentinel, .sentinel], laidTests := true, laidLooks := .later }
def FnExactDueTestsCardSaid : Prop := Claim7.holds Tryd.pinned (.plain (OpenSpec.ofChange fnExactDueTestsSpec)) fnExactDueTestsCard

/-- THE TIED CARD OF 'laws.FnExactCritical'. -/
def fnExactCriticalCard : Claim7 := { stood := { row := fnExactCriticalRow, standIns := [], harness := (true, "5c8e4b72143f1888010163592674e0d15c59e3a48664ddb7e1ae4c528ffda612"), looks := true }, kinds := [], alts := [], laidByText := true, laidKinds := [.handle, .sentinel, .sentinel, .sentinel], laidTests := true, laidLooks := .later }
def FnExactCriticalCardSaid : Prop := Claim7.holds Tryd.pinned (.plain (OpenSpec.ofChange fnExactCriticalSpec)) fnExactCriticalCard

/-- THE TIED CARD OF 'laws.FnExactScheduleOk'. -/
def fnExactScheduleOkCard : Claim7 := { stood := { row := fnExactScheduleOkRow, standIns := [], harness := (true, "5c8e4b72143f1888010163592674e0d15c59e3a48664ddb7e1ae4c528ffda612"), looks := true }, kinds := [], alts := [], laidByText := true, laidKinds := [.handle, .sentinel, .sentinel, .sentinel, .sentinel, .sentinel], laidTests := true, laidLooks := .later }
def FnExactScheduleOkCardSaid : Prop := Claim7.holds Tryd.pinned (.plain (OpenSpec.ofChange fnExactScheduleOkSpec)) fnExactScheduleOkCard

/-- THE TIED CARD OF 'laws.FnExactSchedule'. -/
def fnExactScheduleCard : Claim7 := { stood := { row := fnExactScheduleRow, standIns := [], harness := (true, "5c8e4b72143f1888010163592674e0d15c59e3a48664ddb7e1ae4c528ffda612"), looks := true }, kinds := [], alts := [], laidByText := true, laidKinds := [.handle, .sentinel, .sentinel, .sentinel], laidTests := true, laidLooks := .later }
def FnExactScheduleCardSaid : Prop := Claim7.holds Tryd.pinned (.plain (OpenSpec.ofChange fnExactScheduleSpec)) fnExactScheduleCard

/-- THE SECOND FORM's CARD OF 'laws.FnExactSoonestLate'. -/
def fnExactSoonestLateUptoCard : Claim7 := { stood := { row := fnExactSoonestLateUptoRow, standIns := [], harness := (true, "5c8e4b72143f1888010163592674e0d15c59e3a48664ddb7e1ae4c528ffda612"), looks := true }, kinds := [], alts := [], laidByText := true, laidKinds := [.handle, .sentinel, .sentinel, .sentinel], laidTests := true, laidLooks := .later }
def FnExactSoonestLateUptoCardSaid : Prop := Claim7.holds Tryd.pinned (.plain (OpenSpec.upto fnExactSoonestLateSpec)) fnExactSoonestLateUptoCard

/-- THE SECOND FORM's CARD OF 'laws.FnExactClockStep'. -/
def fnExactClockStepUptoCard : Claim7 := { stood := { row := fnExactClockStepUptoRow, standIns := [], harness := (true, "5c8e4b72143f1888010163592674e0d15c59e3a48664ddb7e1ae4c528ffda612"), looks := true }, kinds := [], alts := [], laidByText := true, laidKinds := [.handle, .sentinel, .sentinel, .sentinel], laidTests := true, laidLooks := .later }
def FnExactClockStepUptoCardSaid : Prop := Claim7.holds Tryd.pinned (.plain (OpenSpec.upto fnExactClockStepSpec)) fnExactClockStepUptoCard

/-- THE SECOND FORM's CARD OF 'laws.FnExactDueTests'. -/
def fnExactDueTestsUptoCard : Claim7 := { stood := { row := fnExactDueTestsUptoRow, standIns := [], harness := (true, "5c8e4b72143f1888010163592674e0d15c59e3a48664ddb7e1ae4c528ffda612"), looks := true }, kinds := [], alts := [], laidByText := true, laidKinds := [.handle, .sentinel, .sentinel], laidTests := true, laidLooks := .later }
def FnExactDueTestsUptoCardSaid : Prop := Claim7.holds Tryd.pinned (.plain (OpenSpec.upto fnExactDueTestsSpec)) fnExactDueTestsUptoCard

/-- THE SECOND FORM's CARD OF 'laws.FnExactCritical'. -/
def fnExactCriticalUptoCard : Claim7 := { stood := { row := fnExactCriticalUptoRow, standIns := [], harness := (true, "5c8e4b72143f1888010163592674e0d15c59e3a48664ddb7e1ae4c528ffda612"), looks := true }, kinds := [], alts := [], laidByText := true, laidKinds := [.handle, .sentinel, .sentinel, .sentinel], laidTests := true, laidLooks := .later }
def FnExactCriticalUptoCardSaid : Prop := Claim7.holds Tryd.pinned (.plain (OpenSpec.upto fnExactCriticalSpec)) fnExactCriticalUptoCard

/-- THE SECOND FORM's CARD OF 'laws.FnExactScheduleOk'. -/
def fnExactScheduleOkUptoCard : Claim7 := { stood := { row := fnExactScheduleOkUptoRow, standIns := [], harness := (true, "5c8e4b72143f1888010163592674e0d15c59e3a48664ddb7e1ae4c528ffda612"), looks := true }, kinds := [], alts := [], laidByText := true, laidKinds := [.handle, .sentinel, .sentinel, .sentinel, .sentinel, .sentinel], laidTests := true, laidLooks := .later }
def FnExactScheduleOkUptoCardSaid : Prop := Claim7.holds Tryd.pinned (.plain (OpenSpec.upto fnExactScheduleOkSpec)) fnExactScheduleOkUptoCard

/-- THE SECOND FORM's CARD OF 'laws.FnExactSchedule'. -/
def fnExactScheduleUptoCard : Claim7 := { stood := { row := fnExactScheduleUptoRow, standIns := [], harness := (true, "5c8e4b72143f1888010163592674e0d15c59e3a48664ddb7e1ae4c528ffda612"), looks := true }, kinds := [], alts := [], laidByText := true, laidKinds := [.handle, .sentinel, .sentinel, .sentinel], laidTests := true, laidLooks := .later }
def FnExactScheduleUptoCardSaid : Prop := Claim7.holds Tryd.pinned (.plain (OpenSpec.upto fnExactScheduleSpec)) fnExactScheduleUptoCard
end Rows
end Go.Proofs.YtfhbkfdfggaomaaDoor
