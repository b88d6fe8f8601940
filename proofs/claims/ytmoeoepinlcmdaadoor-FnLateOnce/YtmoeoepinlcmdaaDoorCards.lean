/-
  DERIVED. GIVEN WITH THE SEED: THE CARDS: each row of YtmoeoepinlcmdaaDoorRows.lean that lists a variable, with what it lists TIED to the program's text (the seventh form; the later family's looks); each row that meets fmt, with fmt's text TOLD by the authors' own Lean function (tested against real Go, not proved from fmt's source: count such statements apart). THE CARD IS WHAT COUNTS. Prove the row's statement (the work); the ties are given (YtmoeoepinlcmdaaDoorTie.lean); close each card by the builder's one call (the guide's Derived/Test/ToyasCard.lean, 'card_holds'). Laid BY PROGRAM, IN A SANDBOX (cutbox-door.mjs). By AI agents, Wed Nov 11 2026. No macro, syntax, notation, axiom, sorry.
-/
import Derived.Test.YtmoeoepinlcmdaaDoorRows
import GoSem.ClaimSeven
namespace Go.Proofs.YtmoeoepinlcmdaaDoor
namespace Rows

/-- THE TIED CARD OF 'laws.FnLateOnce'. -/
def fnLateOnceCard : Claim7 := { stood := { row := fnLateOnceRow, standIns := [], harness := (true, "26348aa6125c5d1fcee8e1442a74fd098cd834aafb5ec1ffc980b0fd8402048b"), looks := true }, kinds := [], alts := [], laidByText := true, laidKinds := [.handle, .sentinel, .sentinel, .sentinel], laidTests := true, laidLooks := .later }
def FnLateOnceCardSaid : Prop := Claim7.holds Tryd.pinned (.plain (OpenSpec.ofChange fnLateOnceSpec)) fnLateOnceCard

/-- THE TIED CARD OF 'laws.FnExactClockStep'. -/
def fnExactClockStepCard : Claim7 := { stood := { row := fnExactClockStepRow, standIns := [], harness := (true, "26348aa6125c5d1fcee8e1442a74fd098cd834aafb5ec1ffc980b0fd8402048b"), looks := true }, kinds := [], alts := [], laidByText := true, laidKinds := [.handle, .sentinel, .sentinel, .sentinel], laidTests := true, laidLooks := .later }
def FnExactClockStepCardSaid : Prop := Claim7.holds Tryd.pinned (.plain (OpenSpec.ofChange fnExactClockStepSpec)) fnExactClockStepCard

/-- THE TIED CARD OF 'laws.FnExactSoonestLate'. -/
def fnExactSoonestLateCard : Claim7 := { stood := { row := fnExactSoonestLateRow, standIns := [], harness := (true, "26348aa6125c5d1fcee8e1442a74fd098cd834aafb5ec1ffc980b0fd8402048b"), looks := true }, kinds := [], alts := [], laidByText := true, laidKinds := [.handle, .sentinel, .sentinel, .sentinel], laidTests := true, laidLooks := .later }
def FnExactSoonestLateCardSaid : Prop := Claim7.holds Tryd.pinned (.plain (OpenSpec.ofChange fnExactSoonestLateSpec)) fnExactSoonestLateCard

/-- THE SECOND FORM's CARD OF 'laws.FnLateOnce'. -/
def fnLateOnceUptoCard : Claim7 := { stood := { row := fnLateOnceUptoRow, standIns := [], harness := (true, "26348aa6125c5d1fcee8e1442a74fd098cd834aafb5ec1ffc980b0fd8402048b"), looks := true }, kinds := [], alts := [], laidByText := true, laidKinds := [.handle, .sentinel, .sentinel, .sentinel], laidTests := true, laidLooks := .later }
def FnLateOnceUptoCardSaid : Prop := Claim7.holds Tryd.pinned (.plain (OpenSpec.upto fnLateOnceSpec)) fnLateOnceUptoCard

/-- THE SECOND FORM's CARD OF 'laws.FnExactClockStep'. -/
def fnExactClockStepUptoCard : Claim7 := { stood := { row := fnExactClockStepUptoRow, standIns := [], harness := (true, "26348aa6125c5d1fcee8e1442a74fd098cd834aafb5ec1ffc980b0fd8402048b"), looks := true }, kinds := [], alts := [], laidByText := true, laidKinds := [.handle, .sentinel, .sentinel, .sentinel], laidTests := true, laidLooks := .later }
def FnExactClockStepUptoCardSaid : Prop := Claim7.holds Tryd.pinned (.plain (OpenSpec.upto fnExactClockStepSpec)) fnExactClockStepUptoCard

/-- THE SECOND FORM's CARD OF 'laws.FnExactSoonestLate'. -/
def fnExactSoonestLateUptoCard : Claim7 := { stood := { row := fnExactSoonestLateUptoRow, standIns := [], harness := (true, "26348aa6125c5d1fcee8e1442a74fd098cd834aafb5ec1ffc980b0fd8402048b"), looks := true }, kinds := [], alts := [], laidByText := true, laidKinds := [.handle, .sentinel, .sentinel, .sentinel], laidTests := true, laidLooks := .later }
def FnExactSoonestLateUptoCardSaid : Prop := Claim7.holds Tryd.pinned (.plain (OpenSpec.upto fnExactSoonestLateSpec)) fnExactSoonestLateUptoCard
end Rows
end Go.Proofs.YtmoeoepinlcmdaaDoor
