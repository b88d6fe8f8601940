/-
What is proved: a list of float64s that was marked holds its marks.
-/
import Derived.Test.YtpnhliijkepbbaaF64M
namespace Go.Proofs.Ytpnhliijkepbbaa
set_option maxRecDepth 40000
open Go.RowKit
set_option linter.unusedVariables false
set_option linter.unusedSimpArgs false

set_option maxRecDepth 20000 in
set_option maxHeartbeats 2000000 in
theorem heldFloat64S_any (s : Option Addr) (n c : Nat) (k : Int) (w : World) (hn : (n : Int) ≤ 1048576) (k0 : 0 ≤ k) (k1 : k ≤ 100000000) (HR : Hid (RowF w s n (markF k))) :
    Calls Try.prog 17 #[.slice s n c, .int .i64 k] w fun e w' => e = .returned (.int .i64 (k + n)) ∧ w' = w := by
  go_enter Try.func17, Try.ntmps17
  go_wp2_with fail
  go_loop [1, 5] (fun q i => ∃ j : Nat, j ≤ n ∧ i = .int .i64 j ∧ q = .int .i64 (k + j)) (fun _ i => n - (intOf i).toNat)
  case atStart => exact ⟨0, Nat.zero_le _, rfl, by simp⟩
  case round =>
    obtain ⟨j, hj, rfl, rfl⟩ := hrel
    by_cases h1 : j < n
    · obtain ⟨g, o, x, rfl, hg, c0, hx⟩ := HR.out j h1
      obtain rfl : x = itf (k + j) := by rcases hx.2 with ⟨_, e⟩ | ⟨_, e⟩ <;> simp [markF] at e; exact e.symm
      have k1 : (j : Int) < (n : Int) := by omega
      have cv := conv_run (k + j)
      have os := itf_self (k + j)
      clear hx
      go_wp2
      go_round
      case rel => exact ⟨j + 1, by omega, by go_num, by go_num⟩
      case measure => simp [intOf]; omega
    · obtain rfl : j = n := by omega
      go_wp2
      go_ret
      exact ⟨rfl, rfl⟩
end Go.Proofs.Ytpnhliijkepbbaa
