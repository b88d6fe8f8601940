/-
What is proved: what is left when no more is shed, in numbers.
-/
import Derived.Test.YtcialcejmjggeaaShdM

namespace Go.Proofs.Ytcialcejmjggeaa
set_option maxRecDepth 40000
open Go.ChangeShapes Go.WideShapes Go.ChangeAt Go.RowKit
set_option linter.unusedVariables false
set_option linter.unusedSimpArgs false

theorem shG_iff (V : Nat → Int) (n : Nat) : ∀ j a, shG V n j a = true ↔ ∃ i, i < j ∧ shU V n i = (a : Int)
  | 0, a => ⟨fun h => (by cases h), fun ⟨i, hi, _⟩ => (by omega)⟩
  | j + 1, a => by
    show (shG V n j a || decide ((a : Int) = bestG V (shG V n j) n)) = true ↔ _
    rw [Bool.or_eq_true, shG_iff V n j a, decide_eq_true_iff]
    constructor
    · rintro (⟨i, hi, e⟩ | e)
      · exact ⟨i, by omega, e⟩
      · exact ⟨j, by omega, e.symm⟩
    · rintro ⟨i, hi, e⟩
      by_cases q : i = j
      · subst q; exact .inr e.symm
      · exact .inl ⟨i, by omega, e⟩
theorem shK_is {V : Nat → Int} {n : Nat} {most : Int} (h0 : 0 ≤ most) (hM : ∀ j, j < n → machB V j = true) : ∀ f j, j + f = n → (∀ i, i < j → most < runG V (shG V n i) n) → (∀ i, i < shK V n most f j → most < runG V (shG V n i) n) ∧ runG V (shG V n (shK V n most f j)) n ≤ most
  | 0, j, hj, h => by
    unfold shK
    refine ⟨h, ?_⟩
    have h1 := sh_next h0 hM j h
    have h2 := run_le (V := V) (G := shG V n j) n hM
    rw [h1.2] at h2
    have : n - j = 0 := by omega
    rw [this] at h2
    simp at h2
    omega
  | f + 1, j, hj, h => by
    unfold shK
    by_cases q : runG V (shG V n j) n ≤ most
    · rw [if_pos q]; exact ⟨h, q⟩
    · rw [if_neg q]
      exact shK_is h0 hM f (j + 1) (by omega) fun i hi => by
        by_cases e : i = j
        · subst e; omega
        · exact h i (by omega)
theorem shd_is {V : Nat → Int} {n : Nat} {most : Int} (hm : machsB n V = true) (h0 : 0 ≤ most) : (∀ i, i < shdN n V most → most < runG V (shG V n i) n) ∧ runG V (shG V n (shdN n V most)) n ≤ most := by
  unfold shdN
  rw [if_pos ⟨hm, h0⟩]
  exact shK_is h0 (machs_yes hm).2 n 0 (by omega) fun i hi => by omega
def shL (V : Nat → Int) (n k : Nat) : List Int := (List.range k).map fun j => shU V n j
theorem shL_len (V : Nat → Int) (n k : Nat) : (shL V n k).length = k := by simp [shL]
theorem shL_at (V : Nat → Int) (n k : Nat) {j : Nat} (h : j < k) : (shL V n k).getD j 0 = shU V n j := by simp [shL, h]
theorem shL_mem (V : Nat → Int) (n k a : Nat) : decide ((a : Int) ∈ shL V n k) = shG V n k a := by
  rw [Bool.eq_iff_iff, decide_eq_true_iff, shG_iff]
  simp only [shL, List.mem_map, List.mem_range]
end Go.Proofs.Ytcialcejmjggeaa
