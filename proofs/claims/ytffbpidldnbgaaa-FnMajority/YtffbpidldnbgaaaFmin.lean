/-
What is proved: whether a float64 is a NaN, by the library's function; whether a number's sign is set, as the specification says it.
-/
import Derived.Test.YtffbpidldnbgaaaFp
namespace Go.Proofs.Ytffbpidldnbgaaa
set_option maxRecDepth 40000
open Go.RowKit

set_option maxHeartbeats 400000 in
theorem isNaN_any (x : Nat) (w : World) : Calls Try.prog 41 #[.float .f64 x] w fun e w' => e = .returned (.bool (decide (INF < rg x))) ∧ w' = w := by
  rw [← nan_iff x]
  go_enter Try.func41, Try.ntmps41
  go_wp2
  go_ret
  exact ⟨rfl, rfl⟩

set_option maxHeartbeats 400000 in
theorem l1Minus_any (x : Nat) (hx : x < 18446744073709551616) (w : World) : Calls Try.prog 36 #[.float .f64 x] w fun e w' => e = .returned (.bool (minusB x)) ∧ w' = w := by
  by_cases hn : INF < rg x
  · have e1 : minusB x = false := by unfold minusB; rw [decide_eq_false (by omega)]; rfl
    rw [e1]; clear e1
    have h0 : FloatKind.f64.format.order x 0 = none := order_nan_l hn
    clear hn
    go_enter Try.func36, Try.ntmps36
    go_wp2
    go_ret
    exact ⟨rfl, rfl⟩
  · have e1 : minusB x = sg x := by unfold minusB; rw [decide_eq_true (by omega)]; rfl
    rw [e1]; clear e1
    have h0 := order_zero (x := x) (by omega)
    by_cases hz : rg x = 0
    · rw [if_pos hz] at h0
      obtain ⟨r, hd, hl⟩ := one_by_zero hx hz
      have hq := fun w => run_quo_some (P := Try.prog) 25 w hd
      clear hd hz hn
      go_enter Try.func36, Try.ntmps36
      go_wp2
      go_ret
      exact ⟨by simp, rfl⟩
    · rw [if_neg hz] at h0
      clear hz hn
      cases hs : sg x
      · rw [hs] at h0
        simp only [Bool.false_eq_true, if_false] at h0
        clear hs
        go_enter Try.func36, Try.ntmps36
        go_wp2
        go_ret
        exact ⟨rfl, rfl⟩
      · rw [hs] at h0
        simp only [if_true] at h0
        clear hs
        go_enter Try.func36, Try.ntmps36
        go_wp2
        go_ret
        exact ⟨rfl, rfl⟩
end Go.Proofs.Ytffbpidldnbgaaa
