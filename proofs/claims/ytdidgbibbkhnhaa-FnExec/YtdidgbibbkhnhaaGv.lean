/-
What is proved: what an op gives of the numbers that it takes.
-/
import Derived.Test.YtdidgbibbkhnhaaIsB
import Derived.Test.YtdidgbibbkhnhaaKt
import Derived.Test.YtdidgbibbkhnhaaRowI
import Derived.Deep.RegionHeld3
import Derived.Deep.DeepCutAuto
import Derived.Deep.QuietTactic
import Derived.BigQuiet
namespace Go.Proofs.Ytdidgbibbkhnhaa
set_option maxRecDepth 40000
open Go.RowKit
set_option linter.unusedVariables false
set_option linter.unusedSimpArgs false

def clipV (x : Int) : Int := max (-1000000) (min x 1000000)
def gvV (op a b c : Int) : Int :=
  if op = 5 then a * b else if op = 6 then (if a < b then b else a) else if op = 7 then (if (a != b) = true then 1 else 0) else if op = 8 then 1 - a
  else if op = 9 then clipV (a + b) else if op = 10 then clipV (a - b) else if op = 11 then (if b < a then b else a) else if op = 12 then (if a < b then b else a)
  else if op = 13 then (if decide (b < a) = true then 1 else 0) else if op = 14 then (if decide (b ≤ a) = true then 1 else 0) else if op = 15 then (if (a == b) = true then 1 else 0) else if a = 1 then b else c
theorem clip_rng (x : Int) : -1000000 ≤ clipV x ∧ clipV x ≤ 1000000 := by unfold clipV; omega
theorem wrap_gv {x : Int} (h0 : -9223372036854775808 ≤ x) (h1 : x ≤ 9223372036854775807) : IntKind.i64.wrap x = x := by
  rw [IntKind.wrap_i64]; omega
theorem mul_wrap {a b : Int} (a0 : -1000000 ≤ a) (a1 : a ≤ 1000000) (b0 : -1000000 ≤ b) (b1 : b ≤ 1000000) : IntKind.i64.wrap (a * b) = a * b := by
  have h1 : a * b ≤ 1000000 * 1000000 := by
    rcases Int.le_total 0 a with p | p <;> rcases Int.le_total 0 b with q | q
    · exact Int.mul_le_mul a1 b1 q (by omega)
    · have := Int.mul_nonneg p (by omega : 0 ≤ -b); rw [Int.mul_neg] at this; omega
    · have := Int.mul_nonneg (by omega : 0 ≤ -a) q; rw [Int.neg_mul] at this; omega
    · have := Int.mul_le_mul (show -a ≤ 1000000 by omega) (show -b ≤ 1000000 by omega) (by omega) (by omega); rw [Int.neg_mul_neg] at this; exact this
  have h2 : -(1000000 * 1000000) ≤ a * b := by
    rcases Int.le_total 0 a with p | p <;> rcases Int.le_total 0 b with q | q
    · have := Int.mul_nonneg p q; omega
    · have := Int.mul_le_mul a1 (show -b ≤ 1000000 by omega) (by omega) (by omega); rw [Int.mul_neg] at this; omega
    · have := Int.mul_le_mul (show -a ≤ 1000000 by omega) b1 q (by omega); rw [Int.neg_mul] at this; omega
    · have := Int.mul_nonneg (show 0 ≤ -a by omega) (show 0 ≤ -b by omega); rw [Int.neg_mul_neg] at this; omega
  obtain ⟨m, hm⟩ : ∃ m, a * b = m := ⟨_, rfl⟩
  rw [hm] at h1 h2 ⊢
  exact wrap_gv (by omega) (by omega)
def gr (x : Int) : Prop := -1000000 ≤ x ∧ x ≤ 1000000
end Go.Proofs.Ytdidgbibbkhnhaa
