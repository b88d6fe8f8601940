/-
  DERIVED. GIVEN WITH THE SEED: THE CARDS: each row of YtbiggeejmndloacDoorRows.lean that lists a variable, with what it lists TIED to the program's text (the seventh form; the later family's looks); each row that meets fmt, with fmt's text TOLD by the authors' own Lean function (tested against real Go, not proved from fmt's source: count such statements apart). THE CARD IS WHAT COUNTS. Prove the row's statement (the work); the ties are given (YtbiggeejmndloacDoorTie.lean); close each card by the builder's one call (the guide's Derived/Test/ToyasCard.lean, 'card_holds'). Laid BY PROGRAM, IN A SANDBOX (cutbox-door.mjs). By AI agents, Wed Nov 11 2026. No macro, syntax, notation, axiom, sorry.
-/
import Derived.Test.YtbiggeejmndloacDoorRows
import GoSem.ClaimSeven
namespace Go.Proofs.YtbiggeejmndloacDoor
namespace Rows

/-- THE TIED CARD OF 'laws.FnExactBurn'. -/
def fnExactBurnCard : Claim7 := { stood := { row := fnExactBurnRow, standIns := [], harness := (true, "e14c556074e6baa371c73114fc2ec9a96aa705cc07a3e64d13b4fb6b6bc25f45"), looks := false }, kinds := [], alts := [], laidByText := true, laidKinds := [.data], laidTests := true, laidLooks := .later }
def FnExactBurnCardSaid : Prop := Claim7.holds Tryd.pinned (.plain (OpenSpec.ofChange fnExactBurnSpec)) fnExactBurnCard

/-- THE TIED CARD OF 'laws.FnExactElements'. -/
def fnExactElementsCard : Claim7 := { stood := { row := fnExactElementsRow, standIns := [], harness := (true, "e14c556074e6baa371c73114fc2ec9a96aa705cc07a3e64d13b4fb6b6bc25f45"), looks := false }, kinds := [], alts := [], laidByText := true, laidKinds := [.data], laidTests := true, laidLooks := .later }
def FnExactElementsCardSaid : Prop := Claim7.holds Tryd.pinned (.plain (OpenSpec.ofChange fnExactElementsSpec)) fnExactElementsCard

/-- THE SECOND FORM's CARD OF 'laws.FnExactBurn'. -/
def fnExactBurnUptoCard : Claim7 := { stood := { row := fnExactBurnUptoRow, standIns := [], harness := (true, "e14c556074e6baa371c73114fc2ec9a96aa705cc07a3e64d13b4fb6b6bc25f45"), looks := false }, kinds := [], alts := [], laidByText := true, laidKinds := [.data], laidTests := true, laidLooks := .later }
def FnExactBurnUptoCardSaid : Prop := Claim7.holds Tryd.pinned (.plain (OpenSpec.upto fnExactBurnSpec)) fnExactBurnUptoCard

/-- THE SECOND FORM's CARD OF 'laws.FnExactElements'. -/
def fnExactElementsUptoCard : Claim7 := { stood := { row := fnExactElementsUptoRow, standIns := [], harness := (true, "e14c556074e6baa371c73114fc2ec9a96aa705cc07a3e64d13b4fb6b6bc25f45"), looks := false }, kinds := [], alts := [], laidByText := true, laidKinds := [.data], laidTests := true, laidLooks := .later }
def FnExactElementsUptoCardSaid : Prop := Claim7.holds Tryd.pinned (.plain (OpenSpec.upto fnExactElementsSpec)) fnExactElementsUptoCard
end Rows
end Go.Proofs.YtbiggeejmndloacDoor
