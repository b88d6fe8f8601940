/-
What is proved: whether all numbers of a list lie between two others, as the program tells it.
-/
import Derived.Test.YtlbbdifmjdpfiaaZdA
import Derived.Test.YtlbbdifmjdpfiaaWithinz
namespace Go.Proofs.Ytlbbdifmjdpfiaa
set_option maxRecDepth 40000
open Go.RowKit
set_option linter.unusedVariables false

theorem ball_succ {P : Nat → Prop} {k : Nat} (h : ∀ j, j < k → P j) (h1 : P k) : ∀ j, j < k + 1 → P j := fun j hj => by
  by_cases e : j = k
  · rw [e]; exact h1
  · exact h j (by omega)

/-- All of the first n lie between lo and hi. -/
def allInB (lo hi : Int) (V : Nat → Int) (n : Nat) : Bool := decide (∀ j, j < n → lo ≤ V j ∧ V j ≤ hi)

theorem allIn_yes {lo hi : Int} {V : Nat → Int} {n : Nat} (h : true = allInB lo hi V n) : ∀ j, j < n → lo ≤ V j ∧ V j ≤ hi := of_decide_eq_true h.symm
theorem allIn_no {lo hi : Int} {V : Nat → Int} {n : Nat} (h : false = allInB lo hi V n) : ¬ ∀ j, j < n → lo ≤ V j ∧ V j ≤ hi := of_decide_eq_false h.symm

set_option maxRecDepth 20000 in
set_option maxHeartbeats 1000000 in
theorem allWithin_any (s : Option Addr) (n c : Nat) (V : Nat → Int) (lo hi : Int) (w : World) (hn : (n : Int) ≤ 1048576) (HR : Hid (RowI w s n V)) :
    Calls Try.prog 76 #[.slice s n c, .int .i64 lo, .int .i64 hi] w fun e w' => e = .returned (.bool (allInB lo hi V n)) ∧ w' = w := by
  go_enter Try.func76, Try.ntmps76
  go_wp2_with fail
  go_loop [11] (fun i => ∃ k : Nat, k ≤ n ∧ i = .int .i64 k ∧ Hid (∀ j, j < k → lo ≤ V j ∧ V j ≤ hi)) (fun i => n - (intOf i).toNat)
  case atStart => exact ⟨0, Nat.zero_le _, rfl, fun j hj => by omega⟩
  case round =>
    obtain ⟨k, hk, rfl, hP⟩ := hrel
    by_cases hlt : k < n
    · obtain ⟨g, o, rfl, hg, c0⟩ := HR.out k hlt
      have k1 : (k : Int) < (n : Int) := by omega
      by_cases q : lo ≤ V k ∧ V k ≤ hi
      · go_wp2_with fail
        refine (within_yes _ _ _ _ q.1 q.2).mono ?_
        rintro e w2 ⟨rfl, rfl⟩
        go_wp2
        go_round
        case rel => exact ⟨k + 1, by omega, by go_num, ball_succ hP.out q⟩
        case measure => simp [intOf]; omega
      · go_wp2_with fail
        refine (within_no _ _ _ _ (by omega)).mono ?_
        rintro e w2 ⟨rfl, rfl⟩
        go_wp2
        go_ret
        exact ⟨ret_bool (decide_eq_false (fun h => q (h k hlt))).symm, rfl⟩
    · obtain rfl : k = n := by omega
      go_wp2
      go_ret
      exact ⟨ret_bool (decide_eq_true hP.out).symm, rfl⟩
end Go.Proofs.Ytlbbdifmjdpfiaa
