/-
What is proved: a NaN of either package is one.
-/
import Derived.Test.YtpnhliijkepbbaaFO
import Derived.Test.YtpnhliijkepbbaaKnown
namespace Go.Proofs.Ytpnhliijkepbbaa
set_option maxRecDepth 40000
open Go.RowKit
set_option linter.unusedVariables false
set_option linter.unusedSimpArgs false

theorem fl_nan {r : Nat} (h : r < 18446744073709551616) (n : INF < rg r) : Fl r none := ⟨h, .inr ⟨n, rfl⟩⟩

set_option maxHeartbeats 400000 in
theorem l1None_any (w : World) : Calls Try.prog 25 #[] w fun e w' => ∃ r n, e = .returned (.float .f64 r) ∧ Fl r none ∧ w' = w.drewN n := by
  have e0 : opO .quo (some 0) (some 0) = none := by kernel_rfl
  go_enter Try.func25, Try.ntmps25
  go_wp2_with (first
    | (refine list_fop .quo rfl 24 24 (.tmp 2) (.tmp 3) (by rfl) (by rfl) (by rfl) (by rfl) fl_zero fl_zero ?_; intro r n hr))
  go_ret
  rw [e0] at hr
  exact ⟨r, n, rfl, hr, rfl⟩

end Go.Proofs.Ytpnhliijkepbbaa
