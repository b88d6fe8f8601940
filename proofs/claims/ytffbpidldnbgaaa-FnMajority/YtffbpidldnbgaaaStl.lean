/-
What is proved: from where on all floats of a list are settled, in numbers.
-/
import Derived.Test.YtffbpidldnbgaaaSz
import Derived.Test.YtffbpidldnbgaaaF64T
namespace Go.Proofs.Ytffbpidldnbgaaa
set_option maxRecDepth 40000
open Go.RowKit
set_option linter.unusedVariables false
set_option linter.unusedSimpArgs false

def knP : Option Nat → Bool
  | some v => knownB v
  | none => false
theorem knownP_fl {x : Nat} {o : Option Nat} (h : Fl x o) : knownB x = knP o := by
  rcases h.2 with ⟨p, rfl⟩ | ⟨p, rfl⟩
  · rfl
  · exact decide_eq_false (by omega)
def setB (V : Nat → Option Nat) (v a : Option Nat) (j : Nat) : Bool := knP (V j) && nearO (V j) v a
/-- The first place from which on all of n are so. -/
def FromV (p : Nat → Bool) (n f : Nat) : Prop := f ≤ n ∧ (∀ j, f ≤ j → j < n → p j = true) ∧ (0 < f → p (f - 1) = false)
theorem FromV.one {p : Nat → Bool} {n f g : Nat} (h : FromV p n f) (k : FromV p n g) : f = g := by
  obtain ⟨h1, h2, h3⟩ := h
  obtain ⟨k1, k2, k3⟩ := k
  by_cases a : f < g
  · have := k3 (by omega); rw [h2 (g - 1) (by omega) (by omega)] at this; cases this
  · by_cases b : g < f
    · have := h3 (by omega); rw [k2 (f - 1) (by omega) (by omega)] at this; cases this
    · omega
theorem from_down (p : Nat → Bool) (n : Nat) : ∀ k, k ≤ n → (∀ j, k ≤ j → j < n → p j = true) → ∃ f, FromV p n f
  | 0, hk, h => ⟨0, hk, h, fun q => by omega⟩
  | k + 1, hk, h => by
    cases e : p k
    · exact ⟨k + 1, hk, h, fun _ => e⟩
    · exact from_down p n k (by omega) fun j h1 h2 => by
        by_cases q : j = k
        · rw [q]; exact e
        · exact h j (by omega) h2
theorem from_some (p : Nat → Bool) (n : Nat) : ∃ f, FromV p n f := from_down p n n (Nat.le_refl _) fun j h1 h2 => by omega
def stlR (n f : Nat) : Int := if f = n then -1 else (f : Int)
end Go.Proofs.Ytffbpidldnbgaaa
