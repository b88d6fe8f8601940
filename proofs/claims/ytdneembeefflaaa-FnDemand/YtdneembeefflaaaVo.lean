/-
What is proved: what a vote counts.
-/
import Derived.Test.YtdneembeefflaaaAllIn
import Derived.Test.YtdneembeefflaaaIsW
namespace Go.Proofs.Ytdneembeefflaaa
set_option maxRecDepth 40000
open Go.RowKit
set_option linter.unusedVariables false
set_option linter.unusedSimpArgs false

def leftN (V : Nat → Int) : Nat → Nat
  | 0 => 0
  | k + 1 => leftN V k + (if V k = 0 ∨ V k = 1 ∨ V k = 2 then 1 else 0)
def tripN (V : Nat → Int) : Nat → Nat
  | 0 => 0
  | k + 1 => tripN V k + (if V k = 1 ∨ V k = 2 then 1 else 0)
theorem left_le (V : Nat → Int) : ∀ k, leftN V k ≤ k
  | 0 => Nat.le_refl _
  | k + 1 => by have := left_le V k; unfold leftN; split <;> omega
theorem trip_le (V : Nat → Int) : ∀ k, tripN V k ≤ k
  | 0 => Nat.le_refl _
  | k + 1 => by have := trip_le V k; unfold tripN; split <;> omega
theorem left_good {V : Nat → Int} {k : Nat} (h : V k = 0) : leftN V (k + 1) = leftN V k + 1 ∧ tripN V (k + 1) = tripN V k := by
  constructor
  · show leftN V k + _ = _; rw [if_pos (.inl h)]
  · show tripN V k + _ = _; rw [if_neg (by omega)]; rfl
theorem left_trip {V : Nat → Int} {k : Nat} (h : V k = 1 ∨ V k = 2) : leftN V (k + 1) = leftN V k + 1 ∧ tripN V (k + 1) = tripN V k + 1 := by
  constructor
  · show leftN V k + _ = _; rw [if_pos (.inr h)]
  · show tripN V k + _ = _; rw [if_pos h]
theorem left_out {V : Nat → Int} {k : Nat} (h : V k = 3) : leftN V (k + 1) = leftN V k ∧ tripN V (k + 1) = tripN V k := by
  constructor
  · show leftN V k + _ = _; rw [if_neg (by omega)]; rfl
  · show tripN V k + _ = _; rw [if_neg (by omega)]; rfl
def votersB (n need : Int) : Bool := inB 1 8 n && inB 1 n need
def voteV (n : Nat) (V : Nat → Int) (need : Int) : Int := if (votersB n need && allInB 0 3 V n) = true then (if min need (leftN V n : Int) ≤ (tripN V n : Int) then 1 else 0) else -1
theorem vote_no1 {n : Nat} {V : Nat → Int} {need : Int} (h : votersB n need = false) : voteV n V need = -1 := by unfold voteV; simp [h]
theorem vote_no2 {n : Nat} {V : Nat → Int} {need : Int} (h : allInB 0 3 V n = false) : voteV n V need = -1 := by unfold voteV; simp [h]
theorem vote_yes {n : Nat} {V : Nat → Int} {need : Int} (h : votersB n need = true) (g : allInB 0 3 V n = true) (t : min need (leftN V n : Int) ≤ (tripN V n : Int)) : voteV n V need = 1 := by unfold voteV; rw [if_pos (by rw [h, g]; rfl), if_pos t]
theorem vote_not {n : Nat} {V : Nat → Int} {need : Int} (h : votersB n need = true) (g : allInB 0 3 V n = true) (t : ¬ min need (leftN V n : Int) ≤ (tripN V n : Int)) : voteV n V need = 0 := by unfold voteV; rw [if_pos (by rw [h, g]; rfl), if_neg t]
end Go.Proofs.Ytdneembeefflaaa
