/-
What is proved: the order that sets are sorted by, and that (impl.faults).compare keeps to it.
-/
import Derived.Test.YtljaidacaepmmaaMfF
import Derived.Test.YtljaidacaepmmaaMfQ
namespace Go.Proofs.Ytljaidacaepmmaa
set_option maxRecDepth 40000
open Go.ChangeShapes Go.WideShapes Go.ChangeAt Go.RowKit
set_option linter.unusedVariables false
set_option linter.unusedSimpArgs false

def keyP (x : Int) : Int := (popS x.toNat : Int)
/-- Which of two sets goes ahead: the one that has fewer, of two that have as many the one whose bits turned round are more. -/
def ltF (x y : Int) : Prop := keyP x < keyP y ∨ (keyP x = keyP y ∧ (revF y < revF x ∨ (revF x = revF y ∧ x < y)))
theorem ltF_tr : ∀ x y z, ltF x y → ltF y z → ltF x z := by
  intro x y z
  unfold ltF
  omega
theorem ltF_tot : ∀ x y, x < y → ¬ ltF y x → ltF x y := by
  intro x y
  unfold ltF
  omega
theorem ltF_irr (x : Int) : ¬ ltF x x := by
  unfold ltF
  omega
theorem cmpF_any (Cap : World → Prop) (c1 c2 : Value) : CmpK (fun x => 0 ≤ x ∧ x < 1024) Cap ltF c1 c2 := by
  intro w x y _ ox oy hxy
  obtain ⟨X, rfl⟩ : ∃ X : Nat, x = (X : Int) := ⟨x.toNat, by omega⟩
  obtain ⟨Y, rfl⟩ : ∃ Y : Nat, y = (Y : Int) := ⟨y.toNat, by omega⟩
  refine (compareF_any Y X (by omega) (by omega) w).mono ?_
  rintro e w' ⟨h1, h2⟩
  refine ⟨_, h1, ?_, h2⟩
  rw [or_neg, cmp_neg, cmp_zero, cmp_neg]
  unfold ltF keyP
  simp only [Int.toNat_natCast]
  omega
end Go.Proofs.Ytljaidacaepmmaa
