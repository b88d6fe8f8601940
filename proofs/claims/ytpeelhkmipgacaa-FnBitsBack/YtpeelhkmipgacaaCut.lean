/-
What is proved: the specification's cut of a number by a power of 2, to the nearest and of two as near the even one.
-/
import Derived.Test.YtpeelhkmipgacaaFp4
namespace Go.Proofs.Ytpeelhkmipgacaa
set_option maxRecDepth 40000
open Go.RowKit

theorem wrap_u64 {x : Int} (h0 : 0 ≤ x) (h : x < 18446744073709551616) : IntKind.u64.wrap x = x := by
  show x % 18446744073709551616 = x
  omega
theorem and_mask (m k : Nat) (hm : m < 18446744073709551616) (hk : k ≤ 60) : bits .and .u64 (m : Int) (IntKind.u64.wrap (IntKind.u64.wrap (2 ^ k) - 1)) = ((m % 2 ^ k : Nat) : Int) ∧ IntKind.u64.wrap (2 ^ k) = ((2 ^ k : Nat) : Int) := by
  have p : 0 < 2 ^ k := Nat.two_pow_pos k
  have q : 2 ^ k ≤ 2 ^ 60 := Nat.pow_le_pow_right (by decide) hk
  have q' : 2 ^ k ≤ 1152921504606846976 := by simpa using q
  have e0 : (2 : Int) ^ k = ((2 ^ k : Nat) : Int) := by simp
  have e1 : IntKind.u64.wrap (2 ^ k) = ((2 ^ k : Nat) : Int) := by rw [e0]; exact wrap_u64 (by omega) (by omega)
  refine ⟨?_, e1⟩
  rw [e1]
  have e2 : IntKind.u64.wrap (((2 ^ k : Nat) : Int) - 1) = ((2 ^ k - 1 : Nat) : Int) := by rw [wrap_u64 (by omega) (by omega)]; omega
  rw [e2, u64_and_nat _ _ hm (by omega)]
  exact congrArg Int.ofNat (Nat.and_two_pow_sub_one_eq_mod _ k)
theorem cut_end (m k : Nat) (hm : m < 9007199254740992) (hk : k ≤ 60) (hk0 : 0 < k) :
    (IntKind.u64.wrap (2 ^ k) / 2 < bits .and .u64 (m : Int) (IntKind.u64.wrap (IntKind.u64.wrap (2 ^ k) - 1)) → IntKind.u64.wrap ((m : Int) / 2 ^ k + 1) = (cutE m k : Int)) ∧
    (bits .and .u64 (m : Int) (IntKind.u64.wrap (IntKind.u64.wrap (2 ^ k) - 1)) = IntKind.u64.wrap (2 ^ k) / 2 → (((m : Int) / 2 ^ k).tmod 2 == 1) = true → IntKind.u64.wrap ((m : Int) / 2 ^ k + 1) = (cutE m k : Int)) ∧
    (bits .and .u64 (m : Int) (IntKind.u64.wrap (IntKind.u64.wrap (2 ^ k) - 1)) = IntKind.u64.wrap (2 ^ k) / 2 → (((m : Int) / 2 ^ k).tmod 2 == 1) = false → (m : Int) / 2 ^ k = (cutE m k : Int)) ∧
    (bits .and .u64 (m : Int) (IntKind.u64.wrap (IntKind.u64.wrap (2 ^ k) - 1)) ≤ IntKind.u64.wrap (2 ^ k) / 2 → ¬ bits .and .u64 (m : Int) (IntKind.u64.wrap (IntKind.u64.wrap (2 ^ k) - 1)) = IntKind.u64.wrap (2 ^ k) / 2 → (m : Int) / 2 ^ k = (cutE m k : Int)) := by
  obtain ⟨e1, e2⟩ := and_mask m k (by omega) hk
  rw [e1, e2]
  have e0 : (2 : Int) ^ k = ((2 ^ k : Nat) : Int) := by simp
  rw [e0]
  have ev : 2 ^ k % 2 = 0 := by
    obtain ⟨j, rfl⟩ : ∃ j, k = j + 1 := ⟨k - 1, by omega⟩
    rw [Nat.pow_succ]; omega
  have e3 : ((m : Int) / ((2 ^ k : Nat) : Int)) = ((m / 2 ^ k : Nat) : Int) := by simp
  rw [e3]
  have lt : m / 2 ^ k ≤ m := Nat.div_le_self _ _
  unfold cutE
  clear e1 e2 e0 e3
  generalize m / 2 ^ k = a at *
  generalize m % 2 ^ k = b at *
  generalize 2 ^ k = g at *
  have e4 : IntKind.u64.wrap ((a : Int) + 1) = (a : Int) + 1 := wrap_u64 (by omega) (by omega)
  have e5 : (a : Int).tmod 2 = ((a % 2 : Nat) : Int) := by
    rw [Int.tmod_eq_emod_of_nonneg (by omega)]; omega
  rw [e4, e5]
  simp only [beq_iff_eq, beq_eq_false_iff_ne]
  refine ⟨fun h => ?_, fun h h2 => ?_, fun h h2 => ?_, fun h h2 => ?_⟩
  · rw [if_pos (by omega)]; omega
  · rw [if_pos (by omega)]; omega
  · rw [if_neg (by omega)]; omega
  · rw [if_neg (by omega)]; omega

set_option maxHeartbeats 1000000 in
theorem l1Cut_big (m k : Int) (h : 60 < k) (w : World) : Calls Try.prog 41 #[.int .u64 m, .int .i64 k] w fun e w' => e = .returned (.int .u64 0) ∧ w' = w := by
  go_enter Try.func41, Try.ntmps41
  go_wp2
  go_ret
  exact ⟨rfl, rfl⟩
set_option maxHeartbeats 1000000 in
theorem l1Cut_small (m k : Nat) (hm : m < 9007199254740992) (h : (k : Int) ≤ 60) (h2 : (29 : Int) ≤ k) (w : World) : Calls Try.prog 41 #[.int .u64 (m : Int), .int .i64 (k : Int)] w fun e w' => e = .returned (.int .u64 (cutE m k : Nat)) ∧ w' = w := by
  have C := cut_end m k hm (by omega) (by omega)
  have HC : Hid _ := C
  clear C hm
  go_enter Try.func41, Try.ntmps41
  go_wp2
  all_goals
    obtain ⟨c1, c2, c3, c4⟩ := HC.out
    go_ret
    first
      | exact ⟨ret_int (c1 (by assumption)), rfl⟩
      | exact ⟨ret_int (c2 (by assumption) (by assumption)), rfl⟩
      | exact ⟨ret_int (c3 (by assumption) (by assumption)), rfl⟩
      | exact ⟨ret_int (c4 (by assumption) (by assumption)), rfl⟩
theorem l1Cut_any (m k : Nat) (hm : m < 9007199254740992) (h2 : 29 ≤ k) (w : World) : Calls Try.prog 41 #[.int .u64 (m : Int), .int .i64 (k : Int)] w fun e w' => e = .returned (.int .u64 (cutE m k : Nat)) ∧ w' = w := by
  by_cases h : k ≤ 60
  · exact l1Cut_small m k hm (by omega) (by omega) w
  · have e : cutE m k = 0 := cutE_big (Nat.lt_of_lt_of_le (m := 2 ^ 61) (by omega) (Nat.pow_le_pow_right (by decide) (by omega)))
    rw [e]
    exact l1Cut_big m k (by omega) w
end Go.Proofs.Ytpeelhkmipgacaa
