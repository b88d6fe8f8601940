/-
What is proved: the bits of a float64, told by the library's function; whether a number's sign is set; whether two float64s are the same, as both packages say it.
-/
import Derived.Test.YtbiggeejmndloabFp
namespace Go.Proofs.Ytbiggeejmndloab
open Go.RowKit

theorem bits_run (x : Nat) (w : World) : Sem.run Try.prog (callFunc 27 #[.float .f64 x]) w = .ok (.value (.int .u64 x)) w := by kernel_rfl

set_option maxHeartbeats 400000 in
theorem isNaN_any (x : Nat) (w : World) : Calls Try.prog 23 #[.float .f64 x] w fun e w' => e = .returned (.bool (decide (INF < rg x))) ∧ w' = w := by
  rw [← nan_iff x]
  go_enter Try.func23, Try.ntmps23
  go_wp2
  go_ret
  exact ⟨rfl, rfl⟩

set_option maxHeartbeats 400000 in
theorem implBitsOf_any (x : Nat) (w : World) : Calls Try.prog 12 #[.float .f64 x] w fun e w' => e = .returned (.int .u64 (bitsB x : Nat)) ∧ w' = w := by
  have A : Hid (∀ w, Calls Try.prog 23 #[.float .f64 x] w fun e w' => e = .returned (.bool (decide (INF < rg x))) ∧ w' = w) := fun w => isNaN_any x w
  have hb := bits_run x
  by_cases h : INF < rg x
  · have e1 : bitsB x = 9221120237041090560 := by unfold bitsB; rw [if_pos h]
    rw [e1]; clear e1
    rw [decide_eq_true h] at A
    clear h
    go_enter Try.func12, Try.ntmps12
    go_wp2_with fail
    refine (A.out _).mono ?_
    rintro e w1 ⟨rfl, rfl⟩
    go_wp2
    go_ret
    exact ⟨rfl, rfl⟩
  · have e1 : bitsB x = x := by unfold bitsB; rw [if_neg h]
    rw [e1]; clear e1
    rw [decide_eq_false h] at A
    clear h
    go_enter Try.func12, Try.ntmps12
    go_wp2_with fail
    refine (A.out _).mono ?_
    rintro e w1 ⟨rfl, rfl⟩
    go_wp2
    go_ret
    exact ⟨rfl, rfl⟩

set_option maxHeartbeats 400000 in
theorem l1Minus_any (x : Nat) (hx : x < 18446744073709551616) (w : World) : Calls Try.prog 25 #[.float .f64 x] w fun e w' => e = .returned (.bool (minusB x)) ∧ w' = w := by
  by_cases hn : INF < rg x
  · have e1 : minusB x = false := by unfold minusB; rw [decide_eq_false (by omega)]; rfl
    rw [e1]; clear e1
    have h0 : FloatKind.f64.format.order x 0 = none := order_nan_l hn
    clear hn
    go_enter Try.func25, Try.ntmps25
    go_wp2
    go_ret
    exact ⟨rfl, rfl⟩
  · have e1 : minusB x = sg x := by unfold minusB; rw [decide_eq_true (by omega)]; rfl
    rw [e1]; clear e1
    have h0 := order_zero (x := x) (by omega)
    by_cases hz : rg x = 0
    · rw [if_pos hz] at h0
      obtain ⟨r, hd, hl⟩ := one_by_zero hx hz
      have hq := fun w => run_quo_some (P := Try.prog) 22 w hd
      clear hd hz hn
      go_enter Try.func25, Try.ntmps25
      go_wp2
      go_ret
      exact ⟨by simp, rfl⟩
    · rw [if_neg hz] at h0
      clear hz hn
      cases hs : sg x
      · rw [hs] at h0
        simp only [Bool.false_eq_true, if_false] at h0
        clear hs
        go_enter Try.func25, Try.ntmps25
        go_wp2
        go_ret
        exact ⟨rfl, rfl⟩
      · rw [hs] at h0
        simp only [if_true] at h0
        clear hs
        go_enter Try.func25, Try.ntmps25
        go_wp2
        go_ret
        exact ⟨rfl, rfl⟩
end Go.Proofs.Ytbiggeejmndloab
