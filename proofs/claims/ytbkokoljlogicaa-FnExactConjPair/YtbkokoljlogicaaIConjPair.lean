/-
What is proved: what the program's own turned pair is, up to a NaN's bits.
-/
import Derived.Test.YtbkokoljlogicaaPair
namespace Go.Proofs.Ytbkokoljlogicaa
set_option maxRecDepth 40000
open Go.RowKit
set_option linter.unusedVariables false
set_option linter.unusedSimpArgs false

set_option maxHeartbeats 1000000 in
theorem implConjPair_any {x y : Nat} {a b : Option Nat} (hx : Fl x a) (hy : Fl y b) (w : World) : Calls Try.prog 18 #[.agg #[.float .f64 x, .float .f64 y]] w fun e w' => ∃ r i, e = .returned (.agg #[.float .f64 r, .float .f64 i]) ∧ Fl r a ∧ Fl i (conjIm b) ∧ Below w.heap.size w w' := by
  have st := store_fp
  go_enter Try.func18, Try.ntmps18
  go_wp2_with fail
  refine (inside_any x y _).mono ?_
  rintro e w1 ⟨rfl, rfl⟩
  go_wp2_with fail
  refine (conjInside_any hx hy _).mono ?_
  rintro e w2 ⟨i, n, rfl, hi, rfl⟩
  go_wp2_with fail
  refine (pairOf_any _ _ _).mono ?_
  rintro e w3 ⟨rfl, rfl⟩
  go_wp2
  exact bodyPost_ret (v := .agg #[.float .f64 x, .float .f64 i]) (by simp [results, Try.results18, go_sem]) rfl ⟨x, i, rfl, hx, hi, (by repeat (first | with_reducible exact Below.refl _ _ | with_reducible refine Below.setCell ?_ (by first | omega | (simp; done) | (simp; omega)) _ | with_reducible refine bDrewN ?_ _ | with_reducible refine Below.drew ?_ | with_reducible refine Below.alloc ?_ (by first | omega | (simp; done) | (simp; omega)) _))⟩
end Go.Proofs.Ytbkokoljlogicaa
