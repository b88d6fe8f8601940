/-
What is proved: whether a fraction is right, as the specification says it, for every two int64s as its parts.
-/
import Derived.Test.YthengechoaodcaaRight
namespace Go.Proofs.Ythengechoaodcaa
set_option maxRecDepth 40000
open Go.RowKit

theorem right_no {n d : Int} (h : d < 1 ∨ 1000000000 < d ∨ n < -1000000000 ∨ 1000000000 < n) : rightB n d = false := by unfold rightB; rw [decide_eq_false_iff_not]; omega

set_option maxHeartbeats 400000 in
theorem l1FracOk_any (n d : Int) (w : World) (h1 : -9223372036854775808 ≤ n) (h2 : n ≤ 9223372036854775807) (h3 : -9223372036854775808 ≤ d) (h4 : d ≤ 9223372036854775807) :
    Calls Try.prog 61 #[.agg #[.int .i64 n, .int .i64 d]] w fun e w' => e = .returned (.bool (rightB n d)) ∧ Below w.heap.size w w' := by
  by_cases c1 : d < 1
  · rw [right_no (.inl c1)]
    have b1 : decide (d < 1) = true := by simpa using c1
    go_enter Try.func61, Try.ntmps61
    go_wp2
    go_ret
    exact ⟨rfl, (by repeat (first | with_reducible exact Below.refl _ _ | with_reducible refine Below.setCell ?_ (by first | omega | (simp; done) | (simp; omega)) _ | with_reducible refine bDrewN ?_ _ | with_reducible refine Below.drew ?_ | with_reducible refine Below.alloc ?_ (by first | omega | (simp; done) | (simp; omega)) _))⟩
  have b1 : decide (d < 1) = false := by simpa using c1
  by_cases c2 : 1000000000 < d
  · rw [right_no (.inr (.inl c2))]
    have b2 : decide (1000000000 < d) = true := by simpa using c2
    go_enter Try.func61, Try.ntmps61
    go_wp2
    go_ret
    exact ⟨rfl, (by repeat (first | with_reducible exact Below.refl _ _ | with_reducible refine Below.setCell ?_ (by first | omega | (simp; done) | (simp; omega)) _ | with_reducible refine bDrewN ?_ _ | with_reducible refine Below.drew ?_ | with_reducible refine Below.alloc ?_ (by first | omega | (simp; done) | (simp; omega)) _))⟩
  have b2 : decide (1000000000 < d) = false := by simpa using c2
  by_cases c3 : n < -1000000000
  · rw [right_no (.inr (.inr (.inl c3)))]
    have b3 : decide (n < -1000000000) = true := by simpa using c3
    go_enter Try.func61, Try.ntmps61
    go_wp2
    go_ret
    exact ⟨rfl, (by repeat (first | with_reducible exact Below.refl _ _ | with_reducible refine Below.setCell ?_ (by first | omega | (simp; done) | (simp; omega)) _ | with_reducible refine bDrewN ?_ _ | with_reducible refine Below.drew ?_ | with_reducible refine Below.alloc ?_ (by first | omega | (simp; done) | (simp; omega)) _))⟩
  have b3 : decide (n < -1000000000) = false := by simpa using c3
  by_cases c4 : 1000000000 < n
  · rw [right_no (.inr (.inr (.inr c4)))]
    have b4 : decide (1000000000 < n) = true := by simpa using c4
    go_enter Try.func61, Try.ntmps61
    go_wp2
    go_ret
    exact ⟨rfl, (by repeat (first | with_reducible exact Below.refl _ _ | with_reducible refine Below.setCell ?_ (by first | omega | (simp; done) | (simp; omega)) _ | with_reducible refine bDrewN ?_ _ | with_reducible refine Below.drew ?_ | with_reducible refine Below.alloc ?_ (by first | omega | (simp; done) | (simp; omega)) _))⟩
  have b4 : decide (1000000000 < n) = false := by simpa using c4
  have eg : ∃ g, g = Nat.gcd n.natAbs d.natAbs := ⟨_, rfl⟩
  obtain ⟨g, eg⟩ := eg
  have e1 : rightB n d = (((g : Nat) : Int) == 1) := by
    unfold rightB; rw [Bool.eq_iff_iff, decide_eq_true_iff, beq_iff_eq]; omega
  rw [e1]; clear e1
  have K1 : Hid (∀ w, Calls Try.prog 72 #[.int .u64 (n.natAbs : Int), .int .u64 d] w fun e w' => e = .returned (.int .u64 (g : Int)) ∧ w' = w) := fun w => by
    have q : d = ((d.natAbs : Nat) : Int) := by omega
    rw [eg]; conv in (Value.int IntKind.u64 d) => rw [q]
    exact l1Gcd_any _ _ w (by omega) (by omega)
  clear eg
  have S1 : Hid (∀ w, Calls Try.prog 71 #[.int .i64 n] w fun e w' => e = .returned (.int .u64 (n.natAbs : Int)) ∧ w' = w) := fun w => l1Abs_any n w h1 h2
  generalize n.natAbs = A at *
  go_enter Try.func61, Try.ntmps61
  go_wp2_with fail
  go_quiet ((first | (go_at_call 71; exact Calls.quiet_of_same (S1.out _)) | (go_at_call 72; exact Calls.quiet_of_same (K1.out _))))
  go_wp2
  go_ret
  exact ⟨rfl, (by repeat (first | with_reducible exact Below.refl _ _ | with_reducible refine Below.setCell ?_ (by first | omega | (simp; done) | (simp; omega)) _ | with_reducible refine bDrewN ?_ _ | with_reducible refine Below.drew ?_ | with_reducible refine Below.alloc ?_ (by first | omega | (simp; done) | (simp; omega)) _))⟩
end Go.Proofs.Ythengechoaodcaa
