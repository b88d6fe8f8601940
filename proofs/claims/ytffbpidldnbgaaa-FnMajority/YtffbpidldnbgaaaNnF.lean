/-
What is proved: a NaN of either package is one.
-/
import Derived.Test.YtffbpidldnbgaaaFO
import Derived.Test.YtffbpidldnbgaaaKnown
namespace Go.Proofs.Ytffbpidldnbgaaa
set_option maxRecDepth 40000
open Go.RowKit
set_option linter.unusedVariables false
set_option linter.unusedSimpArgs false

theorem fl_nan {r : Nat} (h : r < 18446744073709551616) (n : INF < rg r) : Fl r none := ⟨h, .inr ⟨n, rfl⟩⟩

set_option maxHeartbeats 400000 in
theorem l1None_any (w : World) : Calls Try.prog 25 #[] w fun e w' => ∃ r n, e = .returned (.float .f64 r) ∧ Fl r none ∧ w' = w.drewN n := by
  have e0 : opO .quo (some 0) (some 0) = none := by kernel_rfl
  go_enter Try.func25, Try.ntmps25
  go_wp2_with (first
    | (refine list_fop .quo rfl 25 25 (.tmp 2) (.tmp 3) (by rfl) (by rfl) (by rfl) (by rfl) fl_zero fl_zero ?_; intro r n hr))
  go_ret
  rw [e0] at hr
  exact ⟨r, n, rfl, hr, rfl⟩

set_option maxHeartbeats 400000 in
theorem nan_any (w : World) : Calls Try.prog 29 #[] w fun e w' => ∃ r, e = .returned (.float .f64 r) ∧ Fl r none ∧ w' = w := by
  have hb := frombits_run
  go_enter Try.func29, Try.ntmps29
  go_wp2
  go_ret
  exact ⟨9221120237041090561, rfl, fl_nan (by decide) (by decide), rfl⟩
end Go.Proofs.Ytffbpidldnbgaaa
