/-
What is proved: along a steep curve the height never falls.
-/
import Derived.Test.YthbnfckpaehniaaAlongI
namespace Go.Proofs.Ythbnfckpaehniaa
set_option maxRecDepth 40000
open Go.RowKit

/-- Whether the heights rise, too, up to the knot k. -/
def steepTo (V : Nat → Int) : Nat → Bool
  | 0 => true
  | k + 1 => steepTo V k && decide (k = 0 ∨ V (k * 2 - 1) < V (k * 2 + 1))
theorem steep_rise {V : Nat → Int} : ∀ {n : Nat}, steepTo V n = true → ∀ i, i + 1 < n → V (i * 2 + 1) < V ((i + 1) * 2 + 1)
  | 0, _, i, h => by omega
  | n + 1, h, i, hi => by
    unfold steepTo at h
    rw [Bool.and_eq_true] at h
    by_cases e : i + 1 = n
    · subst e
      have := decide_eq_true_iff.1 h.2
      have e2 : (i + 1) * 2 - 1 = i * 2 + 1 := by omega
      rw [e2] at this
      rcases this with q | q
      · omega
      · exact q
    · exact steep_rise h.1 i (by omega)
theorem steep_le {V : Nat → Int} {n : Nat} (h : steepTo V n = true) {i : Nat} : ∀ {j : Nat}, i ≤ j → j < n → V (i * 2 + 1) ≤ V (j * 2 + 1)
  | 0, hj, _ => by have : i = 0 := by omega
                   rw [this]; exact Int.le_refl _
  | j + 1, hj, hn => by
    have r := steep_rise h j hn
    by_cases e : i = j + 1
    · rw [e]; exact Int.le_refl _
    · have := steep_le h (i := i) (j := j) (by omega) (by omega)
      omega
theorem seg_low {V : Nat → Int} {j : Nat} {x : Int} (h1 : V (j * 2) ≤ x) (hX : V (j * 2) < V ((j + 1) * 2)) (hY : V (j * 2 + 1) < V ((j + 1) * 2 + 1)) : V (j * 2 + 1) ≤ segV V x j := by
  unfold segV
  have : 0 ≤ (V ((j + 1) * 2 + 1) - V (j * 2 + 1)) * (x - V (j * 2)) := Int.mul_nonneg (by omega) (by omega)
  have := Int.ediv_nonneg this (show 0 ≤ V ((j + 1) * 2) - V (j * 2) by omega)
  omega
theorem seg_mono {V : Nat → Int} {j : Nat} {x z : Int} (h : x ≤ z) (hX : V (j * 2) < V ((j + 1) * 2)) (hY : V (j * 2 + 1) < V ((j + 1) * 2 + 1)) : segV V x j ≤ segV V z j := by
  unfold segV
  have m : (V ((j + 1) * 2 + 1) - V (j * 2 + 1)) * (x - V (j * 2)) ≤ (V ((j + 1) * 2 + 1) - V (j * 2 + 1)) * (z - V (j * 2)) := Int.mul_le_mul_of_nonneg_left (by omega) (by omega)
  have := Int.ediv_le_ediv (show 0 < V ((j + 1) * 2) - V (j * 2) by omega) m
  omega
theorem seg_high {V : Nat → Int} {j : Nat} {x : Int} (h : x ≤ V ((j + 1) * 2)) (hX : V (j * 2) < V ((j + 1) * 2)) (hY : V (j * 2 + 1) < V ((j + 1) * 2 + 1)) : segV V x j ≤ V ((j + 1) * 2 + 1) := by
  have := seg_mono h hX hY
  rw [seg_right hX] at this
  exact this
/-- ALONG A STEEP CURVE THE HEIGHT NEVER FALLS. -/
theorem along_mono {V : Nat → Int} {n : Nat} (ho : okTo V n = true) (hs : steepTo V n = true) {i j : Nat} {x z : Int} (hi : i + 1 < n) (hj : j + 1 < n) (x1 : V (i * 2) ≤ x) (x2 : x ≤ V ((i + 1) * 2)) (z1 : V (j * 2) ≤ z) (z2 : z ≤ V ((j + 1) * 2)) (h : x ≤ z) : segV V x i ≤ segV V z j := by
  have ri := ok_rise ho hi
  have rj := ok_rise ho hj
  have si := steep_rise hs i hi
  have sj := steep_rise hs j hj
  rcases Nat.lt_trichotomy i j with q | q | q
  · have a := seg_high x2 ri si
    have b := steep_le hs (i := i + 1) (j := j) (by omega) (by omega)
    have c := seg_low z1 rj sj
    omega
  · subst q; exact seg_mono h ri si
  · have a := ok_le ho (i := j + 1) (j := i) (by omega) (by omega)
    have e : x = V (i * 2) := by omega
    have e' : z = V ((j + 1) * 2) := by omega
    have e3 : V (i * 2) = V ((j + 1) * 2) := by omega
    have ij : i = j + 1 := by
      rcases Nat.lt_or_ge (j + 1) i with y | y
      · have := ok_mono ho y (by omega); omega
      · omega
    subst ij
    rw [e, seg_left, e', seg_right rj]
    exact Int.le_refl _
end Go.Proofs.Ythbnfckpaehniaa
