/-
What is proved: two fractions with the same parts are told the same.
-/
import Derived.Test.YtenibgjoojcpkaaOpen
namespace Go.Proofs.Ytenibgjoojcpkaa
set_option maxRecDepth 40000
open Go.RowKit

set_option maxHeartbeats 400000 in
theorem eqFrac_any (a b : Int) (w : World) :
    Calls Try.prog 42 #[.agg #[.int .i64 a, .int .i64 b], .agg #[.int .i64 a, .int .i64 b]] w fun e w' => e = .returned (.bool true) ∧ Below w.heap.size w w' := by
  go_enter Try.func42, Try.ntmps42
  go_wp2
  go_ret
  exact ⟨rfl, (by repeat (first | with_reducible exact Below.refl _ _ | with_reducible refine Below.setCell ?_ (by first | omega | (simp; done) | (simp; omega)) _ | with_reducible refine bDrewN ?_ _ | with_reducible refine Below.drew ?_ | with_reducible refine Below.alloc ?_ (by first | omega | (simp; done) | (simp; omega)) _))⟩

end Go.Proofs.Ytenibgjoojcpkaa
