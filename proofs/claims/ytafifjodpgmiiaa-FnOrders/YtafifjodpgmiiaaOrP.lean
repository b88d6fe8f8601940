/-
What is proved: what orders decide does not ask for their order; one of the Level 1 that wants to shut decides.
-/
import Derived.Test.YtafifjodpgmiiaaDc
namespace Go.Proofs.Ytafifjodpgmiiaa
set_option maxRecDepth 40000
open Go.ChangeShapes Go.WideShapes Go.ChangeAt Go.RowKit
set_option linter.unusedVariables false
set_option linter.unusedSimpArgs false

def hasM (V : Nat → Int) (l : Int) (n : Nat) (y : Int) : Prop := ∃ j, j < n ∧ V (j * 2) = l ∧ V (j * 2 + 1) = y
theorem has_succ (V : Nat → Int) (l : Int) (k : Nat) (y : Int) : hasM V l (k + 1) y ↔ hasM V l k y ∨ (V (k * 2) = l ∧ V (k * 2 + 1) = y) := by
  constructor
  · rintro ⟨j, h1, h2⟩
    by_cases e : j = k
    · subst e; exact Or.inr h2
    · exact Or.inl ⟨j, by omega, h2⟩
  · rintro (⟨j, h1, h2⟩ | h)
    · exact ⟨j, by omega, h2⟩
    · exact ⟨k, by omega, h⟩
theorem wtL_iff (V : Nat → Int) (l : Int) : ∀ n, (wtL V l n = -1 ↔ hasM V l n (-1)) ∧ (wtL V l n = 0 ↔ (¬ hasM V l n (-1) ∧ ¬ hasM V l n 1))
  | 0 => by simp [wtL, hasM]
  | k + 1 => by
    obtain ⟨h1, h2⟩ := wtL_iff V l k
    rw [has_succ, has_succ]
    have hr := wtL_rng V l k
    show (wtS (wtL V l k) (V (k * 2)) (V (k * 2 + 1)) l = -1 ↔ _) ∧ (wtS (wtL V l k) (V (k * 2)) (V (k * 2 + 1)) l = 0 ↔ _)
    unfold wtS
    generalize wtL V l k = r at *
    generalize hasM V l k (-1) = A at *
    generalize hasM V l k 1 = B at *
    by_cases e : V (k * 2) = l
    · by_cases e1 : V (k * 2 + 1) = -1
      · simp [e, e1]
      · by_cases e2 : V (k * 2 + 1) = 1
        · by_cases e3 : r = 0
          · have := h2.1 e3
            simp [e, e2, e3, this]
          · simp [e, e2, e3, h1]
        · simp [e, e1, e2, h1, h2]
    · simp [e, h1, h2]
theorem wtL_same {V U : Nat → Int} {l : Int} {n m : Nat} (h : ∀ y, hasM V l n y ↔ hasM U l m y) : wtL V l n = wtL U l m := by
  obtain ⟨a1, a2⟩ := wtL_iff V l n
  obtain ⟨b1, b2⟩ := wtL_iff U l m
  rw [h (-1), h 1] at a2
  rw [h (-1)] at a1
  have c1 : wtL V l n = -1 ↔ wtL U l m = -1 := a1.trans b1.symm
  have c2 : wtL V l n = 0 ↔ wtL U l m = 0 := a2.trans b2.symm
  have r1 := wtL_rng V l n
  have r2 := wtL_rng U l m
  omega
theorem decG_same {V U : Nat → Int} {n m : Nat} (h : ∀ l, wtL V l n = wtL U l m) : ∀ f, decG V n f = decG U m f
  | 0 => rfl
  | f + 1 => by
    unfold decG
    rw [h, decG_same h f]
/-- The orders, the last one first. -/
def rvV (V : Nat → Int) (n j : Nat) : Int := V ((n - 1 - j / 2) * 2 + j % 2)
theorem rv_0 (V : Nat → Int) (n j : Nat) : rvV V n (j * 2) = V ((n - 1 - j) * 2) := by
  unfold rvV
  rw [show j * 2 / 2 = j by omega, show j * 2 % 2 = 0 by omega]; rfl
theorem rv_1 (V : Nat → Int) (n j : Nat) : rvV V n (j * 2 + 1) = V ((n - 1 - j) * 2 + 1) := by
  unfold rvV
  rw [show (j * 2 + 1) / 2 = j by omega, show (j * 2 + 1) % 2 = 1 by omega]
theorem dec_rev (V : Nat → Int) (n : Nat) : decV (rvV V n) n = decV V n := by
  unfold decV
  split
  · refine decG_same (fun l => wtL_same fun y => ?_) 9
    constructor
    · rintro ⟨j, h1, h2, h3⟩
      rw [rv_0] at h2
      rw [rv_1] at h3
      exact ⟨n - 1 - j, by omega, h2, h3⟩
    · rintro ⟨j, h1, h2, h3⟩
      refine ⟨n - 1 - j, by omega, ?_, ?_⟩
      · rw [rv_0, show n - 1 - (n - 1 - j) = j by omega]; exact h2
      · rw [rv_1, show n - 1 - (n - 1 - j) = j by omega]; exact h3
  · rfl
/-- An order of the Level 1 to shut, ahead of others. -/
def shV (V : Nat → Int) (j : Nat) : Int := if j = 0 then 1 else if j = 1 then -1 else V (j - 2)
theorem sh_0 (V : Nat → Int) (k : Nat) : shV V ((k + 1) * 2) = V (k * 2) := by
  unfold shV
  rw [if_neg (by omega), if_neg (by omega), show (k + 1) * 2 - 2 = k * 2 by omega]
theorem sh_1 (V : Nat → Int) (k : Nat) : shV V ((k + 1) * 2 + 1) = V (k * 2 + 1) := by
  unfold shV
  rw [if_neg (by omega), if_neg (by omega), show (k + 1) * 2 + 1 - 2 = k * 2 + 1 by omega]
theorem dec_shut (V : Nat → Int) (k : Nat) (hk : k ≤ 40) : decV (shV V) (k + 1) = -1 := by
  have h : wtL (shV V) 1 (k + 1) = -1 := (wtL_iff _ _ _).1.2 ⟨0, by omega, rfl, rfl⟩
  unfold decV
  rw [if_pos (by omega), decG_at (shV V) (k + 1) 9 1 (by omega) (by omega) (by rw [h]; decide) (fun l' a b => by omega), h]
end Go.Proofs.Ytafifjodpgmiiaa
