/-
  DERIVED. GIVEN WITH THE SEED: THE CARDS: each row of YtbiggeejmndloadDoorRows.lean that lists a variable, with what it lists TIED to the program's text (the seventh form; the later family's looks); each row that meets fmt, with fmt's text TOLD by the authors' own Lean function (tested against real Go, not proved from fmt's source: count such statements apart). THE CARD IS WHAT COUNTS. Prove the row's statement (the work); the ties are given (YtbiggeejmndloadDoorTie.lean); close each card by the builder's one call (the guide's Derived/Test/ToyasCard.lean, 'card_holds'). Laid BY PROGRAM, IN A SANDBOX (cutbox-door.mjs). By AI agents, Wed Nov 11 2026. No macro, syntax, notation, axiom, sorry.
-/
import Derived.Test.YtbiggeejmndloadDoorRows
import GoSem.ClaimSeven
namespace Go.Proofs.YtbiggeejmndloadDoor
namespace Rows

/-- THE TIED CARD OF 'laws.FnExactHeatOf'. -/
def fnExactHeatOfCard : Claim7 := { stood := { row := fnExactHeatOfRow, standIns := [], harness := (true, "2ed9833b2ae99ee2370b0e5e7950fe02c3f0d76363397864f41db92e2c80a4fc"), looks := false }, kinds := [], alts := [], laidByText := true, laidKinds := [.data], laidTests := true, laidLooks := .later }
def FnExactHeatOfCardSaid : Prop := Claim7.holds Tryd.pinned (.plain (OpenSpec.ofChange fnExactHeatOfSpec)) fnExactHeatOfCard

/-- THE SECOND FORM's CARD OF 'laws.FnExactHeatOf'. -/
def fnExactHeatOfUptoCard : Claim7 := { stood := { row := fnExactHeatOfUptoRow, standIns := [], harness := (true, "2ed9833b2ae99ee2370b0e5e7950fe02c3f0d76363397864f41db92e2c80a4fc"), looks := false }, kinds := [], alts := [], laidByText := true, laidKinds := [.data], laidTests := true, laidLooks := .later }
def FnExactHeatOfUptoCardSaid : Prop := Claim7.holds Tryd.pinned (.plain (OpenSpec.upto fnExactHeatOfSpec)) fnExactHeatOfUptoCard
end Rows
end Go.Proofs.YtbiggeejmndloadDoor
