/-
What is proved: whether two float64s are the same, as the specification says it, for every two words.
-/
import Derived.Test.YtaeajdhddklolaaFmin
namespace Go.Proofs.Ytaeajdhddklolaa
set_option maxRecDepth 40000
open Go.RowKit

set_option maxHeartbeats 400000 in
theorem specSame_any (a b : Nat) (la : a < 18446744073709551616) (lb : b < 18446744073709551616) (w : World) :
    Calls Try.prog 9 #[.float .f64 a, .float .f64 b] w fun e w' => e = .returned (.bool (sameB a b)) ∧ w' = w := by
  by_cases na : INF < rg a
  · have ha : FloatKind.f64.format.order a a = none := order_nan_l na
    rw [same_nan na]
    by_cases nb : INF < rg b
    · have hb : FloatKind.f64.format.order b b = none := order_nan_l nb
      rw [decide_eq_true nb]
      clear na nb
      go_enter Try.func9, Try.ntmps9
      go_wp2
      go_ret
      exact ⟨rfl, rfl⟩
    · have hb : FloatKind.f64.format.order b b = some .eq := order_self (by omega)
      rw [decide_eq_false nb]
      clear na nb
      go_enter Try.func9, Try.ntmps9
      go_wp2
      go_ret
      exact ⟨rfl, rfl⟩
  · have ha : FloatKind.f64.format.order a a = some .eq := order_self (by omega)
    by_cases nb : INF < rg b
    · have hb : FloatKind.f64.format.order b b = none := order_nan_l nb
      rw [same_comm, same_nan nb, decide_eq_false na]
      clear na nb
      go_enter Try.func9, Try.ntmps9
      go_wp2
      go_ret
      exact ⟨rfl, rfl⟩
    · have hb : FloatKind.f64.format.order b b = some .eq := order_self (by omega)
      have M1 : Hid (∀ w, Calls Try.prog 34 #[.float .f64 a] w fun e w' => e = .returned (.bool (minusB a)) ∧ w' = w) := fun w => l1Minus_any a la w
      have M2 : Hid (∀ w, Calls Try.prog 34 #[.float .f64 b] w fun e w' => e = .returned (.bool (minusB b)) ∧ w' = w) := fun w => l1Minus_any b lb w
      rw [same_num la lb (by omega) (by omega)]
      generalize minusB a = ma at *
      generalize minusB b = mb at *
      clear na nb la lb
      cases hE : (FloatKind.f64.format.order a b == some .eq)
      · go_enter Try.func9, Try.ntmps9
        go_wp2
        go_ret
        exact ⟨rfl, rfl⟩
      · go_enter Try.func9, Try.ntmps9
        go_wp2_with fail
        refine (M1.out _).mono ?_
        rintro e w1 ⟨rfl, rfl⟩
        go_wp2_with fail
        refine (M2.out _).mono ?_
        rintro e w1 ⟨rfl, rfl⟩
        go_wp2
        go_ret
        exact ⟨rfl, rfl⟩
end Go.Proofs.Ytaeajdhddklolaa
