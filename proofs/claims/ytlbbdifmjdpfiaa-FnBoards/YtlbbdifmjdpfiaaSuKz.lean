/-
What is proved: sums of lengths.
-/
import Derived.Test.YtlbbdifmjdpfiaaI64Ez
namespace Go.Proofs.Ytlbbdifmjdpfiaa
set_option maxRecDepth 40000
open Go.RowKit
set_option linter.unusedVariables false
set_option linter.unusedSimpArgs false

def suK (K : Nat → Nat) : Nat → Nat
  | 0 => 0
  | n + 1 => suK K n + K n
theorem suK_mono {K : Nat → Nat} {i n : Nat} (h : i ≤ n) : suK K i ≤ suK K n := by
  induction n with
  | zero => obtain rfl : i = 0 := by omega
            exact Nat.le_refl _
  | succ n ih =>
    by_cases e : i = n + 1
    · subst e; exact Nat.le_refl _
    · have := ih (by omega); show suK K i ≤ suK K n + K n; omega
theorem suK_in {K : Nat → Nat} {i n : Nat} (h : i < n) : suK K i + K i ≤ suK K n := suK_mono (K := K) (i := i + 1) h
end Go.Proofs.Ytlbbdifmjdpfiaa
