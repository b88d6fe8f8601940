/-
What is proved: slices.Index and slices.Contains of int64s.
-/
import Derived.Test.YtikcfpjfcpbfcaaRowI
namespace Go.Proofs.Ytikcfpjfcpbfcaa
set_option maxRecDepth 40000
open Go.RowKit
set_option linter.unusedVariables false
set_option linter.unusedSimpArgs false

def hasB (V : Nat → Int) (n : Nat) (x : Int) : Bool := decide (∃ j, j < n ∧ V j = x)
set_option maxRecDepth 20000 in
set_option maxHeartbeats 1000000 in
theorem index_any (s : Option Addr) (n c : Nat) (V : Nat → Int) (x : Int) (w : World) (hn : (n : Int) ≤ 1048576) (HR : Hid (RowI w s n V)) :
    Calls Try.prog 103 #[.slice s n c, .int .i64 x] w fun e w' => ∃ i, e = .returned (.int .i64 i) ∧ decide (0 ≤ i) = hasB V n x ∧ w' = w := by
  go_enter Try.func103, Try.ntmps103
  go_wp2_with fail
  go_loop [8] (fun i => ∃ k : Nat, k ≤ n ∧ i = .int .i64 k ∧ Hid (∀ j, j < k → V j ≠ x)) (fun i => n - (intOf i).toNat)
  case atStart => exact ⟨0, Nat.zero_le _, rfl, fun j hj => by omega⟩
  case round =>
    obtain ⟨k, hk, rfl, hP⟩ := hrel
    by_cases hlt : k < n
    · obtain ⟨g, o, rfl, hg, c0⟩ := HR.out k hlt
      have k1 : (k : Int) < (n : Int) := by omega
      by_cases q : V k = x
      · have b : (x == V k) = true := by simp [q]
        have HE : Hid (decide ((0 : Int) ≤ (k : Int)) = hasB V n x) := by
          show _ = _
          rw [decide_eq_true (by omega)]
          exact (decide_eq_true ⟨k, hlt, q⟩).symm
        clear q
        go_wp2
        go_ret
        exact ⟨k, rfl, HE.out, rfl⟩
      · have b : (x == V k) = false := by simpa using fun h => q h.symm
        have HQ : Hid (V k ≠ x) := q
        clear q
        go_wp2
        go_round
        case rel => exact ⟨k + 1, by omega, by go_num, fun j hj => by
          by_cases e : j = k
          · subst e; exact HQ.out
          · exact hP.out j (by omega)⟩
        case measure => simp [intOf]; omega
    · obtain rfl : k = n := by omega
      go_wp2
      go_ret
      exact ⟨-1, rfl, by
        rw [decide_eq_false (by omega)]
        exact (decide_eq_false fun ⟨j, h1, h2⟩ => hP.out j h1 h2).symm, rfl⟩
set_option maxHeartbeats 1000000 in
theorem contains_any (s : Option Addr) (n c : Nat) (V : Nat → Int) (x : Int) (w : World) (hn : (n : Int) ≤ 1048576) (HR : Hid (RowI w s n V)) :
    Calls Try.prog 76 #[.slice s n c, .int .i64 x] w fun e w' => e = .returned (.bool (hasB V n x)) ∧ w' = w := by
  go_enter Try.func76, Try.ntmps76
  go_wp2_with fail
  refine (index_any s n c V x _ hn HR).mono ?_
  rintro e w1 ⟨i, rfl, hi, rfl⟩
  go_wp2
  go_ret
  exact ⟨rfl, rfl⟩
end Go.Proofs.Ytikcfpjfcpbfcaa
