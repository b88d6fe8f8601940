/-
What is proved: the parts of a sensor's span that counts stand for rise with the count: all 4016 of them, reckoned out.
-/
import Derived.Test.YtbdilaacfokpiaaSe
namespace Go.Proofs.Ytbdilaacfokpiaa
set_option maxRecDepth 40000
open Go.ChangeShapes Go.WideShapes Go.ChangeAt Go.RowKit
set_option linter.unusedVariables false
set_option linter.unusedSimpArgs false

def qk (k : Nat) : Option Nat := fRun .quo (itg (k : Int)) SPAN
def okQ (k : Nat) : Bool := match qk k, qk (k + 1) with
  | some x, some y => decide (x ≤ y) && (decide (y < 9218868437227405312) && decide (0 < y))
  | _, _ => false
theorem okQ_all : (List.range 4015).all okQ = true := by kernel_rfl
end Go.Proofs.Ytbdilaacfokpiaa
