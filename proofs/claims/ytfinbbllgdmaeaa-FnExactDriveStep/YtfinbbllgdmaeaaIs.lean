/-
What is proved: whether a number lies between two others, as both packages say it; a number put between two others; quotients that fall.
-/
import Derived.Test.YtfinbbllgdmaeaaWithin
namespace Go.Proofs.Ytfinbbllgdmaeaa
set_option maxRecDepth 40000
open Go.RowKit
set_option linter.unusedVariables false
set_option linter.unusedSimpArgs false

def inB (lo hi n : Int) : Bool := decide (lo ≤ n ∧ n ≤ hi)
theorem inB_yes {lo hi n : Int} (h : inB lo hi n = true) : lo ≤ n ∧ n ≤ hi := of_decide_eq_true h
theorem inB_no {lo hi n : Int} (h : inB lo hi n = false) : n < lo ∨ hi < n := by have := of_decide_eq_false h; omega
theorem within_is (n lo hi : Int) (w : World) : Calls Try.prog 17 #[.int .i64 n, .int .i64 lo, .int .i64 hi] w fun e w' => e = .returned (.bool (inB lo hi n)) ∧ w' = w := by
  cases h : inB lo hi n
  · exact within_no n lo hi w (inB_no h)
  · exact within_yes n lo hi w (inB_yes h).1 (inB_yes h).2
theorem l1In_is (n lo hi : Int) (w : World) : Calls Try.prog 15 #[.int .i64 n, .int .i64 lo, .int .i64 hi] w fun e w' => e = .returned (.bool (inB lo hi n)) ∧ w' = w := by
  cases h : inB lo hi n
  · exact l1In_no n lo hi w (inB_no h)
  · exact l1In_yes n lo hi w (inB_yes h).1 (inB_yes h).2
set_option maxHeartbeats 400000 in
theorem bounded_any (n lo hi : Int) (w : World) : Calls Try.prog 23 #[.int .i64 n, .int .i64 lo, .int .i64 hi] w fun e w' => e = .returned (.int .i64 (max lo (min n hi))) ∧ w' = w := by
  obtain ⟨p, hp⟩ : ∃ p, (if hi < n then hi else n) = p := ⟨_, rfl⟩
  obtain ⟨q, hq⟩ : ∃ q, (if lo < p then p else lo) = q := ⟨_, rfl⟩
  have e : max lo (min n hi) = q := by rw [← hq, ← hp]; split <;> split <;> omega
  rw [e]
  clear e
  go_enter Try.func23, Try.ntmps23
  go_wp2
  go_ret
  exact ⟨rfl, rfl⟩
end Go.Proofs.Ytfinbbllgdmaeaa
