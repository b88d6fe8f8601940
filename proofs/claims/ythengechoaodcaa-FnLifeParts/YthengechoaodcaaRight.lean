/-
What is proved: whether a fraction is right, as both packages say it, for every two int64s as its parts.
-/
import Derived.Test.YthengechoaodcaaGcd
import Derived.Test.YthengechoaodcaaWithin
namespace Go.Proofs.Ythengechoaodcaa
set_option maxRecDepth 40000
open Go.RowKit

/-- Whether n by d is right. -/
def rightB (n d : Int) : Bool := decide (1 ≤ d ∧ d ≤ 1000000000 ∧ -1000000000 ≤ n ∧ n ≤ 1000000000 ∧ Nat.gcd n.natAbs d.natAbs = 1)

set_option maxHeartbeats 400000 in
theorem right_any (n d : Int) (w : World) (h1 : -9223372036854775808 ≤ n) (h2 : n ≤ 9223372036854775807) (h3 : -9223372036854775808 ≤ d) (h4 : d ≤ 9223372036854775807) :
    Calls Try.prog 56 #[.agg #[.int .i64 n, .int .i64 d]] w fun e w' => e = .returned (.bool (rightB n d)) ∧ Below w.heap.size w w' := by
  by_cases c1 : 1 ≤ d ∧ d ≤ 1000000000
  · by_cases c2 : -1000000000 ≤ n ∧ n ≤ 1000000000
    · have eg : ∃ g, g = Nat.gcd n.natAbs d.natAbs := ⟨_, rfl⟩
      obtain ⟨g, eg⟩ := eg
      have e1 : rightB n d = (((g : Nat) : Int) == 1) := by
        unfold rightB; rw [Bool.eq_iff_iff, decide_eq_true_iff, beq_iff_eq]; omega
      rw [e1]; clear e1
      have K1 : Hid (∀ w, Calls Try.prog 76 #[.int .u64 (n.natAbs : Int), .int .u64 (d.natAbs : Int)] w fun e w' => e = .returned (.int .u64 (g : Int)) ∧ ∃ n, w' = w.drewN n) := fun w => by rw [eg]; exact gcd_any _ _ w (by omega) (by omega)
      clear eg
      obtain ⟨c1a, c1b⟩ := c1
      obtain ⟨c2a, c2b⟩ := c2
      have S1 : Hid (∀ w, Calls Try.prog 77 #[.int .i64 n] w fun e w' => e = .returned (.int .u64 (n.natAbs : Int)) ∧ w' = w) := fun w => sizeOf_any n w h1 h2
      have S2 : Hid (∀ w, Calls Try.prog 77 #[.int .i64 d] w fun e w' => e = .returned (.int .u64 (d.natAbs : Int)) ∧ w' = w) := fun w => sizeOf_any d w h3 h4
      generalize n.natAbs = A at *
      generalize d.natAbs = B at *
      go_enter Try.func56, Try.ntmps56
      go_wp2_with fail
      go_quiet ((first | (go_at_call 73; exact Calls.quiet_of_same (within_yes _ _ _ _ (by omega) (by omega))) | (go_at_call_of 77 (Value.int IntKind.i64 n); exact Calls.quiet_of_same (S1.out _)) | (go_at_call_of 77 (Value.int IntKind.i64 d); exact Calls.quiet_of_same (S2.out _)) | (go_at_call 76; exact Calls.quiet_of (K1.out _))))
      go_wp2
      go_ret
      exact ⟨rfl, (by repeat (first | with_reducible exact Below.refl _ _ | with_reducible refine Below.setCell ?_ (by first | omega | (simp; done) | (simp; omega)) _ | with_reducible refine bDrewN ?_ _ | with_reducible refine Below.drew ?_ | with_reducible refine Below.alloc ?_ (by first | omega | (simp; done) | (simp; omega)) _))⟩
    · have e1 : rightB n d = false := by unfold rightB; rw [decide_eq_false_iff_not]; omega
      rw [e1]; clear e1
      have c2' : n < -1000000000 ∨ 1000000000 < n := by omega
      have C2 : Hid (n < -1000000000 ∨ 1000000000 < n) := c2'
      have C1 : Hid (1 ≤ d ∧ d ≤ 1000000000) := c1
      clear c1 c2 c2'
      go_enter Try.func56, Try.ntmps56
      go_wp2_with fail
      go_quiet ((first | (go_at_call_of 73 (Value.int IntKind.i64 d); exact Calls.quiet_of_same (within_yes _ _ _ _ C1.out.1 C1.out.2)) | (go_at_call_of 73 (Value.int IntKind.i64 n); exact Calls.quiet_of_same (within_no _ _ _ _ C2.out))))
      go_wp2
      go_ret
      exact ⟨rfl, (by repeat (first | with_reducible exact Below.refl _ _ | with_reducible refine Below.setCell ?_ (by first | omega | (simp; done) | (simp; omega)) _ | with_reducible refine bDrewN ?_ _ | with_reducible refine Below.drew ?_ | with_reducible refine Below.alloc ?_ (by first | omega | (simp; done) | (simp; omega)) _))⟩
  · have e1 : rightB n d = false := by unfold rightB; rw [decide_eq_false_iff_not]; omega
    rw [e1]; clear e1
    have c1' : d < 1 ∨ 1000000000 < d := by omega
    have C1 : Hid (d < 1 ∨ 1000000000 < d) := c1'
    clear c1 c1'
    go_enter Try.func56, Try.ntmps56
    go_wp2_with fail
    go_quiet ((go_at_call 73; exact Calls.quiet_of_same (within_no _ _ _ _ C1.out)))
    go_wp2
    go_ret
    exact ⟨rfl, (by repeat (first | with_reducible exact Below.refl _ _ | with_reducible refine Below.setCell ?_ (by first | omega | (simp; done) | (simp; omega)) _ | with_reducible refine bDrewN ?_ _ | with_reducible refine Below.drew ?_ | with_reducible refine Below.alloc ?_ (by first | omega | (simp; done) | (simp; omega)) _))⟩
end Go.Proofs.Ythengechoaodcaa
