/-
What is proved: when a point is right, and what a channel says of what it measures.
-/
import Derived.Test.YtjomflmmlmfipaaKnown
namespace Go.Proofs.Ytjomflmmlmfipaa
set_option maxRecDepth 40000
open Go.RowKit
set_option linter.unusedVariables false
set_option linter.unusedSimpArgs false

theorem f64w_lt {x : Nat} (h : (Lit.float .f64 x).wf = true) : x < 18446744073709551616 := by
  simpa [Lit.wf] using h
def leF (a b : Nat) : Bool := (FloatKind.f64.format.order a b == some .lt || FloatKind.f64.format.order a b == some .eq)
def geF (a b : Nat) : Bool := (FloatKind.f64.format.order a b == some .gt || FloatKind.f64.format.order a b == some .eq)
def posB (s r : Nat) (ab : Bool) : Bool := knownB s && (knownB r && (if ab = true then leF r s else geF r s))
def tripB (s : Nat) (ab : Bool) (x : Nat) : Bool := if ab = true then geF x s else leF x s
def goodB (r : Nat) (ab : Bool) (x : Nat) : Bool := if ab = true then leF x r else geF x r
def saysV (s r : Nat) (ab on : Bool) (x : Nat) : Int := if (posB s r ab && knownB x) = true then (if (tripB s ab x || (on && !goodB r ab x)) = true then 1 else 0) else 2
end Go.Proofs.Ytjomflmmlmfipaa
