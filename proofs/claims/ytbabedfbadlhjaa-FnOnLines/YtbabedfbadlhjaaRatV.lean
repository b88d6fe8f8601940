/-
What is proved: what a right curve has at a flow, part of the way between two knots, as the specification tells it, up to a NaN's bits.
-/
import Derived.Test.YtbabedfbadlhjaaMapJ
namespace Go.Proofs.Ytbabedfbadlhjaa
set_option maxRecDepth 40000
open Go.RowKit
set_option linter.unusedVariables false
set_option linter.unusedSimpArgs false

theorem okTo_at {V : Nat → Int} : ∀ {n : Nat}, okTo V n = true → ∀ j, j < n → okAt V j = true := fun {n} h j hj => by
  cases e : okAt V j with
  | true => rfl
  | false => rw [okTo_no hj e] at h; cases h
theorem curve_at {k : Nat} {V : Nat → Int} (h : curveB k V = true) : okTo V k = true := by
  unfold curveB at h; simp at h; exact h.2
theorem knot_in {k : Nat} {V : Nat → Int} (h : curveB k V = true) {j : Nat} (hj : j < k) : inC (V (j * 2)) ∧ inC (V (j * 2 + 1)) ∧ (j = 0 ∨ V (j * 2 - 2) < V (j * 2)) := by
  have := okTo_at (curve_at h) j hj
  unfold okAt at this
  simpa using this
theorem knot_mono {k : Nat} {V : Nat → Int} (h : curveB k V = true) {i : Nat} : ∀ {j : Nat}, i < j → j < k → V (i * 2) < V (j * 2)
  | 0, hi, _ => absurd hi (by omega)
  | j + 1, hi, hj => by
    obtain ⟨_, _, q⟩ := knot_in h hj
    have e : (j + 1) * 2 - 2 = j * 2 := by omega
    rw [e] at q
    rcases q with q | q
    · omega
    · by_cases r : i = j
      · subst r; exact q
      · have := knot_mono h (i := i) (j := j) (by omega) (by omega); omega
def betw (V : Nat → Int) (y : Int) (a : Nat) : Option Nat := partO (some (itf (V (a * 2 + 1)))) (some (itf (V ((a + 1) * 2 + 1) - V (a * 2 + 1)))) (y - V (a * 2)) (V ((a + 1) * 2) - V (a * 2))
def onV (k : Nat) (V : Nat → Int) (y : Int) (o : Option Nat) : Prop := (∃ a : Nat, a < k ∧ V (a * 2) = y ∧ o = some (itf (V (a * 2 + 1)))) ∨ (∃ a : Nat, a + 1 < k ∧ V (a * 2) < y ∧ y < V ((a + 1) * 2) ∧ o = betw V y a) ∨ ((∀ a, a < k → V (a * 2) ≠ y) ∧ (∀ a, a + 1 < k → ¬ (V (a * 2) < y ∧ y < V ((a + 1) * 2))) ∧ o = none)
theorem onV.one {k : Nat} {V : Nat → Int} {y : Int} {o o' : Option Nat} (hc : curveB k V = true) (h : onV k V y o) (g : onV k V y o') : o = o' := by
  have mono : ∀ {i j : Nat}, i < j → j < k → V (i * 2) < V (j * 2) := fun hi hj => knot_mono hc hi hj
  rcases h with ⟨a, a1, a2, rfl⟩ | ⟨a, a1, a2, a3, rfl⟩ | ⟨a1, a2, rfl⟩ <;> rcases g with ⟨b, b1, b2, rfl⟩ | ⟨b, b1, b2, b3, rfl⟩ | ⟨b1, b2, rfl⟩
  · rcases Nat.lt_trichotomy a b with q | q | q
    · have := mono q b1; omega
    · rw [q]
    · have := mono q a1; omega
  · exfalso
    rcases Nat.lt_trichotomy a b with q | q | q
    · have := mono q (by omega); omega
    · subst q; omega
    · rcases Nat.lt_or_eq_of_le (show b + 1 ≤ a by omega) with r | r
      · have := mono r a1; omega
      · rw [r] at b3; omega
  · exact absurd a2 (b1 a a1)
  · exfalso
    rcases Nat.lt_trichotomy b a with q | q | q
    · have := mono q (by omega); omega
    · subst q; omega
    · rcases Nat.lt_or_eq_of_le (show a + 1 ≤ b by omega) with r | r
      · have := mono r b1; omega
      · rw [r] at a3; omega
  · rcases Nat.lt_trichotomy a b with q | q | q
    · rcases Nat.lt_or_eq_of_le (show a + 1 ≤ b by omega) with r | r
      · have := mono r (by omega); omega
      · rw [r] at a3; omega
    · rw [q]
    · rcases Nat.lt_or_eq_of_le (show b + 1 ≤ a by omega) with r | r
      · have := mono r (by omega); omega
      · rw [r] at b3; omega
  · exact absurd ⟨a2, a3⟩ (b2 a a1)
  · exact absurd b2 (a1 b b1)
  · exact absurd ⟨b2, b3⟩ (a2 b b1)
  · rfl
theorem onV.some (k : Nat) (V : Nat → Int) (y : Int) : ∃ o, onV k V y o := by
  by_cases h : ∃ a : Nat, a < k ∧ V (a * 2) = y
  · obtain ⟨a, a1, a2⟩ := h; exact ⟨_, .inl ⟨a, a1, a2, rfl⟩⟩
  · by_cases g : ∃ a : Nat, a + 1 < k ∧ V (a * 2) < y ∧ y < V ((a + 1) * 2)
    · obtain ⟨a, a1, a2, a3⟩ := g; exact ⟨_, .inr (.inl ⟨a, a1, a2, a3, rfl⟩)⟩
    · exact ⟨_, .inr (.inr ⟨fun a ha e => h ⟨a, ha, e⟩, fun a ha e => g ⟨a, ha, e.1, e.2⟩, rfl⟩)⟩
end Go.Proofs.Ytbabedfbadlhjaa
