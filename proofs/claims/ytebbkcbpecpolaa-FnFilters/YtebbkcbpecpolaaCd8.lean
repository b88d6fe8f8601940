/-
What is proved: the bytes of a code, kept from world to world.
-/
import Derived.Test.YtebbkcbpecpolaaOpen
namespace Go.Proofs.Ytebbkcbpecpolaa
set_option maxRecDepth 40000
open Go.ChangeShapes Go.WideShapes Go.ChangeAt Go.RowKit
set_option linter.unusedVariables false
set_option linter.unusedSimpArgs false

def Code8 (w : World) (s : Option Addr) (n : Nat) : Prop :=
  n ≤ 1048576 ∧ ∀ i, i < n → ∃ g o k, s = some ⟨g, o, none⟩ ∧ g < w.heap.size ∧ w.cell? ⟨g, o + i, none⟩ = some (.int .u8 k) ∧ 0 ≤ k ∧ k < 256
end Go.Proofs.Ytebbkcbpecpolaa
