/-
What is proved: what a burner's step answers, in numbers.
-/
import Derived.Test.YtpnihekpokfooaaBu
namespace Go.Proofs.Ytpnihekpokfooaa
set_option maxRecDepth 40000
open Go.RowKit
set_option linter.unusedVariables false
set_option linter.unusedSimpArgs false

def stN (s t r : Int) (air gas fl st sp rs : Bool) : Int × Int × Int := if okB s t r = true then nextV s t r air gas fl st sp rs else (0, 0, 0)
def stF (s t r : Int) (air gas fl st sp rs : Bool) : Bool := okB s t r && fanB (nextV s t r air gas fl st sp rs).1
def stS (s t r : Int) (air gas fl st sp rs : Bool) : Bool := okB s t r && sparkB (nextV s t r air gas fl st sp rs).1
def stV (s t r : Int) (air gas fl st sp rs : Bool) : Bool := okB s t r && valveB (nextV s t r air gas fl st sp rs).1
end Go.Proofs.Ytpnihekpokfooaa
