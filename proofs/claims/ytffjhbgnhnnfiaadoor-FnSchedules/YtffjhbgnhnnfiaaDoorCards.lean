/-
  DERIVED. GIVEN WITH THE SEED: THE CARDS: each row of YtffjhbgnhnnfiaaDoorRows.lean that lists a variable, with what it lists TIED to the program's text (the seventh form; the later family's looks); each row that meets fmt, with fmt's text TOLD by the authors' own Lean function (tested against real Go, not proved from fmt's source: count such statements apart). THE CARD IS WHAT COUNTS. Prove the row's statement (the work); the ties are given (YtffjhbgnhnnfiaaDoorTie.lean); close each card by the builder's one call (the guide's Derived/Test/ToyasCard.lean, 'card_holds'). Laid BY PROGRAM, IN A SANDBOX (cutbox-door.mjs). By AI agents, Wed Nov 11 2026. No macro, syntax, notation, axiom, sorry.
-/
import Derived.Test.YtffjhbgnhnnfiaaDoorRows
import GoSem.ClaimSeven
namespace Go.Proofs.YtffjhbgnhnnfiaaDoor
namespace Rows

/-- THE TIED CARD OF 'laws.FnSchedules'. -/
def fnSchedulesCard : Claim7 := { stood := { row := fnSchedulesRow, standIns := [], harness := (true, "ab1b7753845ba93033cc0ff55003b7fe386a5cc5bb49e6de68c0390994a21e53"), looks := true }, kinds := [], alts := [], laidByText := true, laidKinds := [.handle, .sentinel, .sentinel, .sentinel, .sentinel, .sentinel], laidTests := true, laidLooks := .later }
def FnSchedulesCardSaid : Prop := Claim7.holds Tryd.pinned (.plain (OpenSpec.ofChange fnSchedulesSpec)) fnSchedulesCard

/-- THE TIED CARD OF 'laws.FnExactCritical'. -/
def fnExactCriticalCard : Claim7 := { stood := { row := fnExactCriticalRow, standIns := [], harness := (true, "ab1b7753845ba93033cc0ff55003b7fe386a5cc5bb49e6de68c0390994a21e53"), looks := true }, kinds := [], alts := [], laidByText := true, laidKinds := [.handle, .sentinel, .sentinel, .sentinel], laidTests := true, laidLooks := .later }
def FnExactCriticalCardSaid : Prop := Claim7.holds Tryd.pinned (.plain (OpenSpec.ofChange fnExactCriticalSpec)) fnExactCriticalCard

/-- THE TIED CARD OF 'laws.FnExactScheduleOk'. -/
def fnExactScheduleOkCard : Claim7 := { stood := { row := fnExactScheduleOkRow, standIns := [], harness := (true, "ab1b7753845ba93033cc0ff55003b7fe386a5cc5bb49e6de68c0390994a21e53"), looks := true }, kinds := [], alts := [], laidByText := true, laidKinds := [.handle, .sentinel, .sentinel, .sentinel, .sentinel, .sentinel], laidTests := true, laidLooks := .later }
def FnExactScheduleOkCardSaid : Prop := Claim7.holds Tryd.pinned (.plain (OpenSpec.ofChange fnExactScheduleOkSpec)) fnExactScheduleOkCard

/-- THE TIED CARD OF 'laws.FnExactSchedule'. -/
def fnExactScheduleCard : Claim7 := { stood := { row := fnExactScheduleRow, standIns := [], harness := (true, "ab1b7753845ba93033cc0ff55003b7fe386a5cc5bb49e6de68c0390994a21e53"), looks := true }, kinds := [], alts := [], laidByText := true, laidKinds := [.handle, .sentinel, .sentinel, .sentinel], laidTests := true, laidLooks := .later }
def FnExactScheduleCardSaid : Prop := Claim7.holds Tryd.pinned (.plain (OpenSpec.ofChange fnExactScheduleSpec)) fnExactScheduleCard

/-- THE SECOND FORM's CARD OF 'laws.FnSchedules'. -/
def fnSchedulesUptoCard : Claim7 := { stood := { row := fnSchedulesUptoRow, standIns := [], harness := (true, "ab1b7753845ba93033cc0ff55003b7fe386a5cc5bb49e6de68c0390994a21e53"), looks := true }, kinds := [], alts := [], laidByText := true, laidKinds := [.handle, .sentinel, .sentinel, .sentinel, .sentinel, .sentinel], laidTests := true, laidLooks := .later }
def FnSchedulesUptoCardSaid : Prop := Claim7.holds Tryd.pinned (.plain (OpenSpec.upto fnSchedulesSpec)) fnSchedulesUptoCard

/-- THE SECOND FORM's CARD OF 'laws.FnExactCritical'. -/
def fnExactCriticalUptoCard : Claim7 := { stood := { row := fnExactCriticalUptoRow, standIns := [], harness := (true, "ab1b7753845ba93033cc0ff55003b7fe386a5cc5bb49e6de68c0390994a21e53"), looks := true }, kinds := [], alts := [], laidByText := true, laidKinds := [.handle, .sentinel, .sentinel, .sentinel], laidTests := true, laidLooks := .later }
def FnExactCriticalUptoCardSaid : Prop := Claim7.holds Tryd.pinned (.plain (OpenSpec.upto fnExactCriticalSpec)) fnExactCriticalUptoCard

/-- THE SECOND FORM's CARD OF 'laws.FnExactScheduleOk'. -/
def fnExactScheduleOkUptoCard : Claim7 := { stood := { row := fnExactScheduleOkUptoRow, standIns := [], harness := (true, "ab1b7753845ba93033cc0ff55003b7fe386a5cc5bb49e6de68c0390994a21e53"), looks := true }, kinds := [], alts := [], laidByText := true, laidKinds := [.handle, .sentinel, .sentinel, .sentinel, .sentinel, .sentinel], laidTests := true, laidLooks := .later }
def FnExactScheduleOkUptoCardSaid : Prop := Claim7.holds Tryd.pinned (.plain (OpenSpec.upto fnExactScheduleOkSpec)) fnExactScheduleOkUptoCard

/-- THE SECOND FORM's CARD OF 'laws.FnExactSchedule'. -/
def fnExactScheduleUptoCard : Claim7 := { stood := { row := fnExactScheduleUptoRow, standIns := [], harness := (true, "ab1b7753845ba93033cc0ff55003b7fe386a5cc5bb49e6de68c0390994a21e53"), looks := true }, kinds := [], alts := [], laidByText := true, laidKinds := [.handle, .sentinel, .sentinel, .sentinel], laidTests := true, laidLooks := .later }
def FnExactScheduleUptoCardSaid : Prop := Claim7.holds Tryd.pinned (.plain (OpenSpec.upto fnExactScheduleSpec)) fnExactScheduleUptoCard
end Rows
end Go.Proofs.YtffjhbgnhnnfiaaDoor
