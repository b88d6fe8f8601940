/-
What is proved: whether two float64s are the same, as the program says it, for every two words.
-/
import Derived.Test.YtjgjddlfciaeeaaFbits
namespace Go.Proofs.Ytjgjddlfciaeeaa
set_option maxRecDepth 40000
open Go.RowKit
set_option linter.unusedVariables false
set_option linter.unusedSimpArgs false

set_option maxHeartbeats 400000 in
theorem implSame_any (a b : Nat) (w : World) :
    Calls Try.prog 29 #[.float .f64 a, .float .f64 b] w fun e w' => e = .returned (.bool (sameB a b)) ∧ w' = w := by
  have A : Hid (∀ w, Calls Try.prog 37 #[.float .f64 a] w fun e w' => e = .returned (.int .u64 (bitsB a : Nat)) ∧ w' = w) := fun w => implBitsOf_any a w
  have B : Hid (∀ w, Calls Try.prog 37 #[.float .f64 b] w fun e w' => e = .returned (.int .u64 (bitsB b : Nat)) ∧ w' = w) := fun w => implBitsOf_any b w
  have e : sameB a b = (((bitsB a : Nat) : Int) == ((bitsB b : Nat) : Int)) := by
    unfold sameB; rw [Bool.eq_iff_iff, beq_iff_eq, beq_iff_eq]; omega
  rw [e]; clear e
  generalize bitsB a = x at *
  generalize bitsB b = y at *
  go_enter Try.func29, Try.ntmps29
  go_wp2_with fail
  refine (A.out _).mono ?_
  rintro e w1 ⟨rfl, rfl⟩
  go_wp2_with fail
  refine (B.out _).mono ?_
  rintro e w1 ⟨rfl, rfl⟩
  go_wp2
  go_ret
  exact ⟨rfl, rfl⟩

end Go.Proofs.Ytjgjddlfciaeeaa
