/-
What is proved: a size that is drawn.
-/
import Derived.Test.YtlbbdifmjdpfiaaZdA
namespace Go.Proofs.Ytlbbdifmjdpfiaa
set_option maxRecDepth 40000
open Go.ChangeShapes Go.WideShapes Go.ChangeAt Go.RowKit
set_option linter.unusedVariables false
set_option linter.unusedSimpArgs false

set_option maxHeartbeats 1000000 in
theorem size_any {r : Nat} {s : Option Addr} {n c p : Nat} {w : World} (per most : Int) (h0 : 1 ≤ per) (h1 : per ≤ 1000) (h2 : 1 ≤ most) (h3 : most ≤ 1000) (h : Hid (Rd w r s n c p)) :
    Calls Try.prog 43 #[.pointer (some ⟨r, 0, none⟩), .int .i64 per, .int .i64 most] w fun e w' => ∃ k p', e = .returned (.int .i64 k) ∧ 1 ≤ k ∧ k ≤ most + 1 ∧ Rd w' r s n c p' ∧ Beside r w w' := by
  obtain ⟨z1, z2, z3, z4, z5, z6, -⟩ := h.out
  have n1 : (n : Int) ≤ 1048576 := by omega
  have d0 : 0 ≤ (n : Int) / per := Int.ediv_nonneg (by omega) (by omega)
  have d1 : (n : Int) / per ≤ (n : Int) := Int.ediv_le_self per (by omega)
  have BL : Hid (∀ m, 1 ≤ m → m ≤ most → Calls Try.prog 46 #[.pointer (some ⟨r, 0, none⟩), .int .i64 m] w fun e w' => ∃ k p', e = .returned (.int .i64 k) ∧ 0 ≤ k ∧ k ≤ most ∧ Rd w' r s n c p' ∧ Beside r w w') := fun m m0 m1 => (below_any m h).mono fun e w' ⟨k, p', e1, k0, k1, k2, R, b⟩ => ⟨k, p', e1, k0, by omega, R, b⟩
  have pz : ¬ per = 0 := by omega
  by_cases q : 1 + (n : Int) / per ≤ most
  · go_enter Try.func43, Try.ntmps43
    go_wp2_with fail
    refine (BL.out _ (by omega) (by omega)).mono ?_
    rintro e w1 ⟨k, p1, rfl, k0, k1, R1, b1⟩
    go_wp2
    go_ret
    exact ⟨1 + k, p1, rfl, by omega, by omega, R1, b1⟩
  · go_enter Try.func43, Try.ntmps43
    go_wp2_with fail
    refine (BL.out _ (by omega) (by omega)).mono ?_
    rintro e w1 ⟨k, p1, rfl, k0, k1, R1, b1⟩
    go_wp2
    go_ret
    exact ⟨1 + k, p1, rfl, by omega, by omega, R1, b1⟩
end Go.Proofs.Ytlbbdifmjdpfiaa
