/-
What is proved: that the law tells two float64s to be the same that stand for the same number, and every NaN as every other.
-/
import Derived.Test.YtjahjhddokaopaaFO
namespace Go.Proofs.Ytjahjhddokaopaa
set_option maxRecDepth 40000
open Go.RowKit
set_option linter.unusedVariables false

set_option maxHeartbeats 400000 in
theorem sameFloat_refl (a : Nat) (ha : a < 18446744073709551616) (hn : rg a ≤ INF) (w : World) : Calls Try.prog 38 #[.float .f64 a, .float .f64 a] w fun e w' => e = .returned (.bool true) ∧ w' = w := by
  have h0 : FloatKind.f64.format.order a a = some .eq := order_self hn
  have hz := order_zero hn
  by_cases z : rg a = 0
  · rw [if_pos z] at hz
    obtain ⟨r, hd, _⟩ := one_by_zero ha z
    have hq := fun w => run_quo_some (P := Try.prog) 24 w hd
    clear hd z hn ha
    go_enter Try.func38, Try.ntmps38
    go_wp2
    go_ret
    exact ⟨by simp, rfl⟩
  · rw [if_neg z] at hz
    have hzz : (FloatKind.f64.format.order a 0 == some .eq) = false := by
      rw [hz]; cases sg a <;> rfl
    clear hz z hn ha
    go_enter Try.func38, Try.ntmps38
    go_wp2
    go_ret
    exact ⟨by simp, rfl⟩

set_option maxHeartbeats 400000 in
theorem sameFloat_nan (a b : Nat) (ha : INF < rg a) (hb : INF < rg b) (w : World) : Calls Try.prog 38 #[.float .f64 a, .float .f64 b] w fun e w' => e = .returned (.bool true) ∧ w' = w := by
  have h0 : FloatKind.f64.format.order a a = none := order_nan_l ha
  have h1 : FloatKind.f64.format.order b b = none := order_nan_l hb
  clear ha hb
  go_enter Try.func38, Try.ntmps38
  go_wp2
  go_ret
  exact ⟨by simp, rfl⟩

theorem sameFloat_any {x y : Nat} {o : Option Nat} (hx : Fl x o) (hy : Fl y o) (w : World) : Calls Try.prog 38 #[.float .f64 x, .float .f64 y] w fun e w' => e = .returned (.bool true) ∧ w' = w := by
  rcases hx.2 with ⟨p, rfl⟩ | ⟨p, rfl⟩ <;> rcases hy.2 with ⟨q, e⟩ | ⟨q, e⟩
  · cases e; exact sameFloat_refl x hx.1 p w
  · cases e
  · cases e
  · exact sameFloat_nan x y p q w
end Go.Proofs.Ytjahjhddokaopaa
