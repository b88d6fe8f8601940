/-
What is proved: small facts on rows that a call makes.
-/
import Derived.Test.YtpaiajeigdifcaaOwnL
namespace Go.Proofs.Ytpaiajeigdifcaa
set_option maxRecDepth 40000
open Go.ChangeShapes Go.WideShapes Go.ChangeAt Go.RowKit
set_option linter.unusedVariables false
set_option linter.unusedSimpArgs false

theorem owns_mono0 {w : World} {base base' : Nat} {e : TypeId} {size : Nat} {v : Value} {n : Nat} {xs : List Value} (h : w.ownsRow base e size v n xs) (hb : base' ≤ base) : w.ownsRow base' e size v n xs :=
  ⟨h.1, h.2.imp id fun ⟨g, cap, cur, h1, h2, h3⟩ => ⟨g, cap, cur, h1, Nat.le_trans hb h2, h3⟩⟩
theorem madeL_below0 {base b0 H : Nat} {w wr w1 : World} {v : Value} {l : List Int} (h : MadeL base b0 H w wr v l) (hb : Below wr.heap.size wr w1) (hz : base ≤ wr.heap.size) : MadeL base b0 H w w1 v l :=
  ⟨own_same h.1 (fun g hg => by
    rcases h.1.2 with ⟨rfl, _⟩ | ⟨g', cap, cur, rfl, _, hq, _⟩
    · cases hg
    · cases hg
      exact hb.block _ (Array.getElem?_eq_some_iff.1 hq).1), h.2.1.trans (hb.mono hz), h.2.2⟩
end Go.Proofs.Ytpaiajeigdifcaa
