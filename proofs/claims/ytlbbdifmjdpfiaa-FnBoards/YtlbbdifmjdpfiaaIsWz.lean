/-
What is proved: whether a number lies between two others, as both packages say it.
-/
import Derived.Test.YtlbbdifmjdpfiaaWithinz
namespace Go.Proofs.Ytlbbdifmjdpfiaa
set_option maxRecDepth 40000
open Go.RowKit
set_option linter.unusedVariables false
set_option linter.unusedSimpArgs false

def inB (lo hi n : Int) : Bool := decide (lo ≤ n ∧ n ≤ hi)
theorem inB_yes {lo hi n : Int} (h : inB lo hi n = true) : lo ≤ n ∧ n ≤ hi := of_decide_eq_true h
theorem inB_no {lo hi n : Int} (h : inB lo hi n = false) : n < lo ∨ hi < n := by have := of_decide_eq_false h; omega
theorem within_is (n lo hi : Int) (w : World) : Calls Try.prog 52 #[.int .i64 n, .int .i64 lo, .int .i64 hi] w fun e w' => e = .returned (.bool (inB lo hi n)) ∧ w' = w := by
  cases h : inB lo hi n
  · exact within_no n lo hi w (inB_no h)
  · exact within_yes n lo hi w (inB_yes h).1 (inB_yes h).2
theorem l1In_is (n lo hi : Int) (w : World) : Calls Try.prog 71 #[.int .i64 n, .int .i64 lo, .int .i64 hi] w fun e w' => e = .returned (.bool (inB lo hi n)) ∧ w' = w := by
  cases h : inB lo hi n
  · exact l1In_no n lo hi w (inB_no h)
  · exact l1In_yes n lo hi w (inB_yes h).1 (inB_yes h).2
end Go.Proofs.Ytlbbdifmjdpfiaa
