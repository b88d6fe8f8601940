/-
What is proved: the count of a list of int64s.
-/
import Derived.Test.YtikcfpjfcpbfcaaI64z
namespace Go.Proofs.Ytikcfpjfcpbfcaa
set_option maxRecDepth 40000
open Go.RowKit
set_option linter.unusedVariables false

end Go.Proofs.Ytikcfpjfcpbfcaa
