/-
What is proved: what the program's own sum of squares of a pair is, up to a NaN's bits.
-/
import Derived.Test.YtedkhhocbnldjaaPair
namespace Go.Proofs.Ytedkhhocbnldjaa
set_option maxRecDepth 40000
open Go.RowKit
set_option linter.unusedVariables false
set_option linter.unusedSimpArgs false

set_option maxHeartbeats 1000000 in
theorem implNorm_any {x y : Nat} {a b : Option Nat} (hx : Fl x a) (hy : Fl y b) (w : World) : Calls Try.prog 30 #[.agg #[.float .f64 x, .float .f64 y]] w fun e w' => ∃ r, e = .returned (.float .f64 r) ∧ Fl r (normO a b) ∧ Below w.heap.size w w' := by
  go_enter Try.func30, Try.ntmps30
  go_wp2_with fail
  refine (inside_any x y _).mono ?_
  rintro e w1 ⟨rfl, rfl⟩
  go_wp2_with fail
  refine (normInside_any hx hy _).mono ?_
  rintro e w2 ⟨r, n, rfl, hr, rfl⟩
  go_wp2
  go_ret
  exact ⟨r, rfl, hr, (by repeat (first | with_reducible exact Below.refl _ _ | with_reducible refine Below.setCell ?_ (by first | omega | (simp; done) | (simp; omega)) _ | with_reducible refine bDrewN ?_ _ | with_reducible refine Below.drew ?_ | with_reducible refine Below.alloc ?_ (by first | omega | (simp; done) | (simp; omega)) _))⟩
end Go.Proofs.Ytedkhhocbnldjaa
