/-
What is proved: whether a float64 is known, as the specification says it, for every word.
-/
import Derived.Test.YtffbpidldnbgaaaFp
namespace Go.Proofs.Ytffbpidldnbgaaa
set_option maxRecDepth 40000
open Go.RowKit

def knownB (x : Nat) : Bool := decide (rg x < INF)

set_option maxHeartbeats 400000 in
theorem specKnown_any (x : Nat) (w : World) :
    Calls Try.prog 10 #[.float .f64 x] w fun e w' => e = .returned (.bool (knownB x)) ∧ ∃ n, w' = w.drewN n := by
  by_cases h : rg x < INF
  · have e1 : knownB x = true := decide_eq_true h
    rw [e1]
    have hs := fun w => run_sub_some (P := Try.prog) 25 w (sub_self_fin h)
    have h0 : FloatKind.f64.format.order 0 0 = some .eq := by decide
    clear h e1
    go_enter Try.func10, Try.ntmps10
    go_wp2
    go_ret
    exact ⟨by simp, 0, rfl⟩
  · have e1 : knownB x = false := decide_eq_false h
    rw [e1]
    have hs := fun w => run_sub_none (P := Try.prog) 25 w (sub_self_not (x := x) (by omega))
    have h0 : ∀ w, FloatKind.f64.format.order (nanA w (.nanBits .f64 x x)) 0 = none := fun w => order_nan_l (nanA_nan w x x)
    clear h e1
    go_enter Try.func10, Try.ntmps10
    go_wp2
    go_ret
    exact ⟨by simp, 1, rfl⟩

end Go.Proofs.Ytffbpidldnbgaaa
