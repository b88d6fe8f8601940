/-
What is proved: a variable of the package that holds an error.
-/
import Derived.Test.YtmoeoepinlcmdaaDoorAf
namespace Go.Proofs.YtmoeoepinlcmdaaDoor
set_option maxRecDepth 40000
open Go.ChangeShapes Go.WideShapes Go.ChangeAt Go.RowKit
set_option linter.unusedVariables false
set_option linter.unusedSimpArgs false

def ErrG (g : Nat) (w : World) : Prop := g < w.heap.size ∧ ∃ (t : TypeId) (x : Value), w.cell? ⟨g, 0, none⟩ = some (.iface t x)
theorem ErrG.below {g : Nat} {w w' : World} (h : ErrG g w) (hb : Below w.heap.size w w') : ErrG g w' := ⟨Nat.lt_of_lt_of_le h.1 hb.size, by
  obtain ⟨hl, t, x, e⟩ := h
  exact ⟨t, x, (hb.cell (p := ⟨g, 0, none⟩) hl).trans e⟩⟩
end Go.Proofs.YtmoeoepinlcmdaaDoor
