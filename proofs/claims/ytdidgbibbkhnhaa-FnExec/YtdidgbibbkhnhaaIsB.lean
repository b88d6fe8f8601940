/-
What is proved: a number put between two others (beside whether it lies between them).
-/
import Derived.Test.YtdidgbibbkhnhaaIsW
namespace Go.Proofs.Ytdidgbibbkhnhaa
set_option maxRecDepth 40000
open Go.RowKit
set_option linter.unusedVariables false
set_option linter.unusedSimpArgs false

set_option maxHeartbeats 400000 in
theorem bounded_any (n lo hi : Int) (w : World) : Calls Try.prog 62 #[.int .i64 n, .int .i64 lo, .int .i64 hi] w fun e w' => e = .returned (.int .i64 (max lo (min n hi))) ∧ w' = w := by
  obtain ⟨p, hp⟩ : ∃ p, (if hi < n then hi else n) = p := ⟨_, rfl⟩
  obtain ⟨q, hq⟩ : ∃ q, (if lo < p then p else lo) = q := ⟨_, rfl⟩
  have e : max lo (min n hi) = q := by rw [← hq, ← hp]; split <;> split <;> omega
  rw [e]
  clear e
  go_enter Try.func62, Try.ntmps62
  go_wp2
  go_ret
  exact ⟨rfl, rfl⟩
end Go.Proofs.Ytdidgbibbkhnhaa
