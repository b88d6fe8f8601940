/-
  DERIVED. GIVEN WITH THE SEED: THE CARDS: each row of YtphmdnpmekdglaaDoorRows.lean that lists a variable, with what it lists TIED to the program's text (the seventh form; the later family's looks); each row that meets fmt, with fmt's text TOLD by the authors' own Lean function (tested against real Go, not proved from fmt's source: count such statements apart). THE CARD IS WHAT COUNTS. Prove the row's statement (the work); the ties are given (YtphmdnpmekdglaaDoorTie.lean); close each card by the builder's one call (the guide's Derived/Test/ToyasCard.lean, 'card_holds'). Laid BY PROGRAM, IN A SANDBOX (cutbox-door.mjs). By AI agents, Wed Nov 11 2026. No macro, syntax, notation, axiom, sorry.
-/
import Derived.Test.YtphmdnpmekdglaaDoorRows
import GoSem.ClaimSeven
namespace Go.Proofs.YtphmdnpmekdglaaDoor
namespace Rows

/-- THE TIED CARD OF 'laws.FnAtoms'. -/
def fnAtomsCard : Claim7 := { stood := { row := fnAtomsRow, standIns := [], harness := (true, "98d5f3eaf119d83eaeb59dc1a9c6e3edcf9c5c8e2cd096893036eacb0b772961"), looks := false }, kinds := [], alts := [], laidByText := true, laidKinds := [.data, .data], laidTests := true, laidLooks := .later }
def FnAtomsCardSaid : Prop := Claim7.holds Tryd.pinned (.plain (OpenSpec.ofChange fnAtomsSpec)) fnAtomsCard

/-- THE TIED CARD OF 'laws.FnNeed'. -/
def fnNeedCard : Claim7 := { stood := { row := fnNeedRow, standIns := [], harness := (true, "98d5f3eaf119d83eaeb59dc1a9c6e3edcf9c5c8e2cd096893036eacb0b772961"), looks := false }, kinds := [], alts := [], laidByText := true, laidKinds := [.data, .data], laidTests := true, laidLooks := .later }
def FnNeedCardSaid : Prop := Claim7.holds Tryd.pinned (.plain (OpenSpec.ofChange fnNeedSpec)) fnNeedCard

/-- THE TIED CARD OF 'laws.FnExactBurn'. -/
def fnExactBurnCard : Claim7 := { stood := { row := fnExactBurnRow, standIns := [], harness := (true, "98d5f3eaf119d83eaeb59dc1a9c6e3edcf9c5c8e2cd096893036eacb0b772961"), looks := false }, kinds := [], alts := [], laidByText := true, laidKinds := [.data], laidTests := true, laidLooks := .later }
def FnExactBurnCardSaid : Prop := Claim7.holds Tryd.pinned (.plain (OpenSpec.ofChange fnExactBurnSpec)) fnExactBurnCard

/-- THE TIED CARD OF 'laws.FnExactElements'. -/
def fnExactElementsCard : Claim7 := { stood := { row := fnExactElementsRow, standIns := [], harness := (true, "98d5f3eaf119d83eaeb59dc1a9c6e3edcf9c5c8e2cd096893036eacb0b772961"), looks := false }, kinds := [], alts := [], laidByText := true, laidKinds := [.data], laidTests := true, laidLooks := .later }
def FnExactElementsCardSaid : Prop := Claim7.holds Tryd.pinned (.plain (OpenSpec.ofChange fnExactElementsSpec)) fnExactElementsCard

/-- THE TIED CARD OF 'laws.FnExactHeatOf'. -/
def fnExactHeatOfCard : Claim7 := { stood := { row := fnExactHeatOfRow, standIns := [], harness := (true, "98d5f3eaf119d83eaeb59dc1a9c6e3edcf9c5c8e2cd096893036eacb0b772961"), looks := false }, kinds := [], alts := [], laidByText := true, laidKinds := [.data], laidTests := true, laidLooks := .later }
def FnExactHeatOfCardSaid : Prop := Claim7.holds Tryd.pinned (.plain (OpenSpec.ofChange fnExactHeatOfSpec)) fnExactHeatOfCard

/-- THE SECOND FORM's CARD OF 'laws.FnAtoms'. -/
def fnAtomsUptoCard : Claim7 := { stood := { row := fnAtomsUptoRow, standIns := [], harness := (true, "98d5f3eaf119d83eaeb59dc1a9c6e3edcf9c5c8e2cd096893036eacb0b772961"), looks := false }, kinds := [], alts := [], laidByText := true, laidKinds := [.data, .data], laidTests := true, laidLooks := .later }
def FnAtomsUptoCardSaid : Prop := Claim7.holds Tryd.pinned (.plain (OpenSpec.upto fnAtomsSpec)) fnAtomsUptoCard

/-- THE SECOND FORM's CARD OF 'laws.FnNeed'. -/
def fnNeedUptoCard : Claim7 := { stood := { row := fnNeedUptoRow, standIns := [], harness := (true, "98d5f3eaf119d83eaeb59dc1a9c6e3edcf9c5c8e2cd096893036eacb0b772961"), looks := false }, kinds := [], alts := [], laidByText := true, laidKinds := [.data, .data], laidTests := true, laidLooks := .later }
def FnNeedUptoCardSaid : Prop := Claim7.holds Tryd.pinned (.plain (OpenSpec.upto fnNeedSpec)) fnNeedUptoCard

/-- THE SECOND FORM's CARD OF 'laws.FnExactBurn'. -/
def fnExactBurnUptoCard : Claim7 := { stood := { row := fnExactBurnUptoRow, standIns := [], harness := (true, "98d5f3eaf119d83eaeb59dc1a9c6e3edcf9c5c8e2cd096893036eacb0b772961"), looks := false }, kinds := [], alts := [], laidByText := true, laidKinds := [.data], laidTests := true, laidLooks := .later }
def FnExactBurnUptoCardSaid : Prop := Claim7.holds Tryd.pinned (.plain (OpenSpec.upto fnExactBurnSpec)) fnExactBurnUptoCard

/-- THE SECOND FORM's CARD OF 'laws.FnExactElements'. -/
def fnExactElementsUptoCard : Claim7 := { stood := { row := fnExactElementsUptoRow, standIns := [], harness := (true, "98d5f3eaf119d83eaeb59dc1a9c6e3edcf9c5c8e2cd096893036eacb0b772961"), looks := false }, kinds := [], alts := [], laidByText := true, laidKinds := [.data], laidTests := true, laidLooks := .later }
def FnExactElementsUptoCardSaid : Prop := Claim7.holds Tryd.pinned (.plain (OpenSpec.upto fnExactElementsSpec)) fnExactElementsUptoCard

/-- THE SECOND FORM's CARD OF 'laws.FnExactHeatOf'. -/
def fnExactHeatOfUptoCard : Claim7 := { stood := { row := fnExactHeatOfUptoRow, standIns := [], harness := (true, "98d5f3eaf119d83eaeb59dc1a9c6e3edcf9c5c8e2cd096893036eacb0b772961"), looks := false }, kinds := [], alts := [], laidByText := true, laidKinds := [.data], laidTests := true, laidLooks := .later }
def FnExactHeatOfUptoCardSaid : Prop := Claim7.holds Tryd.pinned (.plain (OpenSpec.upto fnExactHeatOfSpec)) fnExactHeatOfUptoCard
end Rows
end Go.Proofs.YtphmdnpmekdglaaDoor
