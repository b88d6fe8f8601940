/-
  DERIVED. GIVEN WITH THE SEED: THE CARDS: each row of YtfhbkfdfggaomabDoorRows.lean that lists a variable, with what it lists TIED to the program's text (the seventh form; the later family's looks); each row that meets fmt, with fmt's text TOLD by the authors' own Lean function (tested against real Go, not proved from fmt's source: count such statements apart). THE CARD IS WHAT COUNTS. Prove the row's statement (the work); the ties are given (YtfhbkfdfggaomabDoorTie.lean); close each card by the builder's one call (the guide's Derived/Test/ToyasCard.lean, 'card_holds'). Laid BY PROGRAM, IN A SANDBOX (cutbox-door.mjs). By AI agents, Wed Nov 11 2026. No macro, syntax, notation, axiom, sorry.
-/
import Derived.Test.YtfhbkfdfggaomabDoorRows
import GoSem.ClaimSeven
namespace Go.Proofs.YtfhbkfdfggaomabDoor
namespace Rows

/-- THE TIED CARD OF 'laws.FnLateOnce'. -/
def fnLateOnceCard : Claim7 := { stood := { row := fnLateOnceRow, standIns := [], harness := (true, "ed72a361dfd1770e373a04eee72f72c13f425bcf035f39445d449ceda021f17a"), looks := true }, kinds := [], alts := [], laidByText := true, laidKinds := [.handle, .sentinel, .sentinel, .sentinel], laidTests := true, laidLooks := .later }
def FnLateOnceCardSaid : Prop := Claim7.holds Tryd.pinned (.plain (OpenSpec.ofChange fnLateOnceSpec)) fnLateOnceCard

/-- THE TIED CARD OF 'laws.FnDue'. -/
def fnDueCard : Claim7 := { stood := { row := fnDueRow, standIns := [], harness := (true, "ed72a361dfd1770e373a04eee72f72c13f425bcf035f39445d449ceda021f17a"), looks := true }, kinds := [], alts := [], laidByText := true, laidKinds := [.handle, .sentinel, .sentinel], laidTests := true, laidLooks := .later }
def FnDueCardSaid : Prop := Claim7.holds Tryd.pinned (.plain (OpenSpec.ofChange fnDueSpec)) fnDueCard

/-- THE TIED CARD OF 'laws.FnSchedules'. -/
def fnSchedulesCard : Claim7 := { stood := { row := fnSchedulesRow, standIns := [], harness := (true, "ed72a361dfd1770e373a04eee72f72c13f425bcf035f39445d449ceda021f17a"), looks := true }, kinds := [], alts := [], laidByText := true, laidKinds := [.handle, .sentinel, .sentinel, .sentinel, .sentinel, .sentinel], laidTests := true, laidLooks := .later }
def FnSchedulesCardSaid : Prop := Claim7.holds Tryd.pinned (.plain (OpenSpec.ofChange fnSchedulesSpec)) fnSchedulesCard

/-- THE SECOND FORM's CARD OF 'laws.FnLateOnce'. -/
def fnLateOnceUptoCard : Claim7 := { stood := { row := fnLateOnceUptoRow, standIns := [], harness := (true, "ed72a361dfd1770e373a04eee72f72c13f425bcf035f39445d449ceda021f17a"), looks := true }, kinds := [], alts := [], laidByText := true, laidKinds := [.handle, .sentinel, .sentinel, .sentinel], laidTests := true, laidLooks := .later }
def FnLateOnceUptoCardSaid : Prop := Claim7.holds Tryd.pinned (.plain (OpenSpec.upto fnLateOnceSpec)) fnLateOnceUptoCard

/-- THE SECOND FORM's CARD OF 'laws.FnDue'. -/
def fnDueUptoCard : Claim7 := { stood := { row := fnDueUptoRow, standIns := [], harness := (true, "ed72a361dfd1770e373a04eee72f72c13f425bcf035f39445d449ceda021f17a"), looks := true }, kinds := [], alts := [], laidByText := true, laidKinds := [.handle, .sentinel, .sentinel], laidTests := true, laidLooks := .later }
def FnDueUptoCardSaid : Prop := Claim7.holds Tryd.pinned (.plain (OpenSpec.upto fnDueSpec)) fnDueUptoCard

/-- THE SECOND FORM's CARD OF 'laws.FnSchedules'. -/
def fnSchedulesUptoCard : Claim7 := { stood := { row := fnSchedulesUptoRow, standIns := [], harness := (true, "ed72a361dfd1770e373a04eee72f72c13f425bcf035f39445d449ceda021f17a"), looks := true }, kinds := [], alts := [], laidByText := true, laidKinds := [.handle, .sentinel, .sentinel, .sentinel, .sentinel, .sentinel], laidTests := true, laidLooks := .later }
def FnSchedulesUptoCardSaid : Prop := Claim7.holds Tryd.pinned (.plain (OpenSpec.upto fnSchedulesSpec)) fnSchedulesUptoCard
end Rows
end Go.Proofs.YtfhbkfdfggaomabDoor
