/-
What is proved: what came to a drum by the acts of a run is what is in its books, in numbers.
-/
import Derived.Test.YtjiojofgpdimaaaDmV
namespace Go.Proofs.Ytjiojofgpdimaaa
set_option maxRecDepth 40000
open Go.ChangeShapes Go.WideShapes Go.ChangeAt Go.RowKit
set_option linter.unusedVariables false
set_option linter.unusedSimpArgs false

def fedS (A : Nat → Int) : Nat → Int
  | 0 => 0
  | k + 1 => fedS A k + A (k * 3)
def givS (A : Nat → Int) : Nat → Int
  | 0 => 0
  | k + 1 => givS A k + A (k * 3 + 1) + 4 * A (k * 3)
theorem run_sums (x : T7) (A : Nat → Int) : ∀ k, (runT x A k).2.2.2.1 = x.2.2.2.1 + fedS A k ∧ (runT x A k).2.2.2.2.2.1 = x.2.2.2.2.2.1 + givS A k ∧ (runT x A k).2.2.2.2.2.2 - x.2.2.2.2.2.2 = 30 * ((runT x A k).2.2.2.2.1 - x.2.2.2.2.1)
  | 0 => by
    refine ⟨?_, ?_, ?_⟩
    · show x.2.2.2.1 = x.2.2.2.1 + 0; omega
    · show x.2.2.2.2.2.1 = x.2.2.2.2.2.1 + 0; omega
    · show x.2.2.2.2.2.2 - x.2.2.2.2.2.2 = 30 * (x.2.2.2.2.1 - x.2.2.2.2.1); omega
  | k + 1 => by
    obtain ⟨h1, h2, h3⟩ := run_sums x A k
    refine ⟨?_, ?_, ?_⟩
    · show (runT x A k).2.2.2.1 + A (k * 3) = x.2.2.2.1 + (fedS A k + A (k * 3)); omega
    · show (runT x A k).2.2.2.2.2.1 + 4 * A (k * 3) + A (k * 3 + 1) = x.2.2.2.2.2.1 + (givS A k + A (k * 3 + 1) + 4 * A (k * 3)); omega
    · show (runT x A k).2.2.2.2.2.2 + 30 * _ - x.2.2.2.2.2.2 = 30 * ((runT x A k).2.2.2.2.1 + _ - x.2.2.2.2.1); omega
/-- What the law asks of the end of a run. -/
theorem run_books {x : T7} {A : Nat → Int} {m : Nat} {v : Value} (hv : RunV x A m v) : (∃ y0 y1 y2 y3 y4 y5 y6 : Int, v = .tuple #[.agg #[.int .i64 y0, .int .i64 y1, .int .i64 y2, .int .i64 y3, .int .i64 y4, .int .i64 y5, .int .i64 y6], .int .i64 (-1)]) ∨ ∃ (k : Nat) (y0 y1 y2 y3 y4 y5 y6 : Int), v = .tuple #[.agg #[.int .i64 y0, .int .i64 y1, .int .i64 y2, .int .i64 y3, .int .i64 y4, .int .i64 y5, .int .i64 y6], .int .i64 (k : Int)] ∧ k ≤ m ∧ drumB y0 y1 y2 y3 y4 y5 y6 = true ∧ y3 = x.2.2.2.1 + fedS A k ∧ y5 = x.2.2.2.2.2.1 + givS A k ∧ y6 - x.2.2.2.2.2.2 = 30 * (y4 - x.2.2.2.2.1) ∧ drumB x.1 x.2.1 x.2.2.1 x.2.2.2.1 x.2.2.2.2.1 x.2.2.2.2.2.1 x.2.2.2.2.2.2 = true ∧ ∀ j, j < k → (0 ≤ A (j * 3) ∧ A (j * 3) ≤ 1000000) ∧ (0 ≤ A (j * 3 + 1) ∧ A (j * 3 + 1) ≤ 1000000) ∧ (0 ≤ fedS A j ∧ fedS A j ≤ 1000000 * (j : Int)) ∧ (0 ≤ givS A j ∧ givS A j ≤ 5000000 * (j : Int)) := by
  rcases hv with ⟨h1, rfl⟩ | ⟨h1, k, k1, k2, k3, rfl⟩
  · exact Or.inl ⟨_, _, _, _, _, _, _, rfl⟩
  · right
    unfold goB at h1
    rw [Bool.and_eq_true] at h1
    obtain ⟨s1, s2, s3⟩ := run_sums x A k
    have each : ∀ j, j < k → (0 ≤ A (j * 3) ∧ A (j * 3) ≤ 1000000) ∧ (0 ≤ A (j * 3 + 1) ∧ A (j * 3 + 1) ≤ 1000000) := fun j hj => by
      have := step_facts (k2 j hj)
      obtain ⟨-, -, -, -, -, -, -, a, b, -⟩ := this
      exact ⟨a, b⟩
    have sums : ∀ j, j ≤ k → (0 ≤ fedS A j ∧ fedS A j ≤ 1000000 * (j : Int)) ∧ (0 ≤ givS A j ∧ givS A j ≤ 5000000 * (j : Int)) := by
      intro j
      induction j with
      | zero => intro _; exact ⟨⟨Int.le_refl _, by show (0 : Int) ≤ _; omega⟩, ⟨Int.le_refl _, by show (0 : Int) ≤ _; omega⟩⟩
      | succ j ih =>
        intro hj
        obtain ⟨i1, i2⟩ := ih (by omega)
        obtain ⟨a, b⟩ := each j (by omega)
        show (0 ≤ fedS A j + A (j * 3) ∧ fedS A j + A (j * 3) ≤ 1000000 * ((j + 1 : Nat) : Int)) ∧ (0 ≤ givS A j + A (j * 3 + 1) + 4 * A (j * 3) ∧ givS A j + A (j * 3 + 1) + 4 * A (j * 3) ≤ 5000000 * ((j + 1 : Nat) : Int))
        omega
    exact ⟨k, _, _, _, _, _, _, _, rfl, k1, run_right h1.1 k k2, s1, s2, s3, h1.1, fun j hj => ⟨(each j hj).1, (each j hj).2, (sums j (by omega)).1, (sums j (by omega)).2⟩⟩
theorem fed_end {A : Nat → Int} {k : Nat} (h : ∀ j, j < k → (0 ≤ A (j * 3) ∧ A (j * 3) ≤ 1000000) ∧ (0 ≤ A (j * 3 + 1) ∧ A (j * 3 + 1) ≤ 1000000) ∧ (0 ≤ fedS A j ∧ fedS A j ≤ 1000000 * (j : Int)) ∧ (0 ≤ givS A j ∧ givS A j ≤ 5000000 * (j : Int))) : (0 ≤ fedS A k ∧ fedS A k ≤ 1000000 * (k : Int)) ∧ (0 ≤ givS A k ∧ givS A k ≤ 5000000 * (k : Int)) := by
  cases k with
  | zero => exact ⟨⟨Int.le_refl _, by show (0 : Int) ≤ _; omega⟩, ⟨Int.le_refl _, by show (0 : Int) ≤ _; omega⟩⟩
  | succ j =>
    obtain ⟨a, b, i1, i2⟩ := h j (by omega)
    show (0 ≤ fedS A j + A (j * 3) ∧ fedS A j + A (j * 3) ≤ 1000000 * ((j + 1 : Nat) : Int)) ∧ (0 ≤ givS A j + A (j * 3 + 1) + 4 * A (j * 3) ∧ givS A j + A (j * 3 + 1) + 4 * A (j * 3) ≤ 5000000 * ((j + 1 : Nat) : Int))
    omega
end Go.Proofs.Ytjiojofgpdimaaa
