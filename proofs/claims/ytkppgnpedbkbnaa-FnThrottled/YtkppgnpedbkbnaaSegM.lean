/-
What is proved: the height between two knots lies between their heights; the three curves of boiling water are right, and how their heights stand to each other.
-/
import Derived.Test.YtkppgnpedbkbnaaBoilI
namespace Go.Proofs.Ytkppgnpedbkbnaa
set_option maxRecDepth 40000
open Go.RowKit
set_option linter.unusedVariables false

theorem seg_mid {V : Nat → Int} {j : Nat} {x : Int} (r : V (j * 2) < V ((j + 1) * 2)) (h1 : V (j * 2) ≤ x) (h2 : x ≤ V ((j + 1) * 2)) : min (V (j * 2 + 1)) (V ((j + 1) * 2 + 1)) ≤ segV V x j ∧ segV V x j ≤ max (V (j * 2 + 1)) (V ((j + 1) * 2 + 1)) := by
  unfold segV
  generalize V ((j + 1) * 2 + 1) = p at *
  generalize V (j * 2 + 1) = q at *
  generalize V ((j + 1) * 2) = u at *
  generalize V (j * 2) = v at *
  have d1 : 0 < u - v := by omega
  have t0 : 0 ≤ x - v := by omega
  have t1 : x - v ≤ u - v := by omega
  generalize u - v = d at *
  generalize x - v = t at *
  rcases Int.lt_or_le (p - q) 0 with s | s
  · have e1 : (p - q) * t ≤ 0 := Int.mul_nonpos_of_nonpos_of_nonneg (by omega) t0
    have e2 : (p - q) * d ≤ (p - q) * t := Int.mul_le_mul_of_nonpos_left (by omega) t1
    have f1 : (p - q) * t / d ≤ 0 := by
      have := Int.ediv_le_ediv (c := d) d1 e1
      simpa using this
    have f2 : p - q ≤ (p - q) * t / d := by
      have := Int.ediv_le_ediv (c := d) d1 e2
      rwa [Int.mul_ediv_cancel _ (by omega)] at this
    omega
  · have e1 : 0 ≤ (p - q) * t := Int.mul_nonneg s t0
    have e2 : (p - q) * t ≤ (p - q) * d := Int.mul_le_mul_of_nonneg_left t1 s
    have f1 : 0 ≤ (p - q) * t / d := Int.ediv_nonneg e1 (by omega)
    have f2 : (p - q) * t / d ≤ p - q := by
      have := Int.ediv_le_ediv (c := d) d1 e2
      rwa [Int.mul_ediv_cancel _ (by omega)] at this
    omega
theorem curve_xs (Y : Nat → Int) (j : Nat) : curveV Y (j * 2) = xsV j := by unfold curveV; rw [if_pos (by omega)]; congr 1; omega
theorem curve_ys (Y : Nat → Int) (j : Nat) : curveV Y (j * 2 + 1) = Y j := by unfold curveV; rw [if_neg (by omega)]; congr 1; omega
/-- The height of one of the three curves at a pressure. -/
def HtV (Y : Nat → Int) (p v : Int) : Prop := ∃ j, j + 1 < 6 ∧ curveV Y (j * 2) ≤ p ∧ p ≤ curveV Y ((j + 1) * 2) ∧ v = segV (curveV Y) p j
theorem ht_av {Y : Nat → Int} (hY : curveB 6 (curveV Y) = true) {p v : Int} (h : HtV Y p v) : AV 6 (curveV Y) p v true := by
  obtain ⟨j, a, b, c, d⟩ := h
  exact .inr ⟨hY, .inr ⟨j, a, b, c, d, rfl⟩⟩
theorem ht_bd {Y : Nat → Int} {p v lo hi : Int} (h : HtV Y p v) (hb : ∀ j, j < 6 → lo ≤ Y j ∧ Y j ≤ hi) : lo ≤ v ∧ v ≤ hi := by
  obtain ⟨j, a, b, c, rfl⟩ := h
  have r : curveV Y (j * 2) < curveV Y ((j + 1) * 2) := by
    rw [curve_xs, curve_xs]
    have : j = 0 ∨ j = 1 ∨ j = 2 ∨ j = 3 ∨ j = 4 := by omega
    rcases this with rfl | rfl | rfl | rfl | rfl <;> decide
  have := seg_mid r b c
  rw [curve_ys, curve_ys] at this
  have h1 := hb j (by omega)
  have h2 := hb (j + 1) (by omega)
  omega
theorem six {P : Nat → Prop} (h0 : P 0) (h1 : P 1) (h2 : P 2) (h3 : P 3) (h4 : P 4) (h5 : P 5) : ∀ j, j < 6 → P j := fun j hj => by
  have : j = 0 ∨ j = 1 ∨ j = 2 ∨ j = 3 ∨ j = 4 ∨ j = 5 := by omega
  rcases this with rfl | rfl | rfl | rfl | rfl | rfl <;> assumption
theorem bdB : ∀ j, j < 6 → (458 : Int) ≤ yB j ∧ yB j ≤ 3657 := six (by decide) (by decide) (by decide) (by decide) (by decide) (by decide)
theorem bdL : ∀ j, j < 6 → (1918 : Int) ≤ yL j ∧ yL j ≤ 18268 := six (by decide) (by decide) (by decide) (by decide) (by decide) (by decide)
theorem bdV : ∀ j, j < 6 → (24105 : Int) ≤ yV j ∧ yV j ≤ 27942 := six (by decide) (by decide) (by decide) (by decide) (by decide) (by decide)
theorem okB : curveB 6 (curveV yB) = true := by decide
theorem okL : curveB 6 (curveV yL) = true := by decide
theorem okV : curveB 6 (curveV yV) = true := by decide
theorem c4B : ∀ k, (cell4 k)[1 + 0]? = some (.int .i64 (yB k)) := fun k => rfl
theorem c4L : ∀ k, (cell4 k)[1 + 1]? = some (.int .i64 (yL k)) := fun k => rfl
theorem c4V : ∀ k, (cell4 k)[1 + 2]? = some (.int .i64 (yV k)) := fun k => rfl
end Go.Proofs.Ytkppgnpedbkbnaa
