/-
What is proved: what a reader leaves when it reads a word, a number below another one, one between two.
-/
import Derived.Test.YtjahjhddokaopaaRd
namespace Go.Proofs.Ytjahjhddokaopaa
set_option maxRecDepth 40000
open Go.RowKit
set_option linter.unusedVariables false

theorem wrap64_id {n : Int} (h : -9223372036854775808 ≤ n) (h' : n ≤ 9223372036854775807) : wrap64 n = n := by unfold wrap64; omega
theorem wf_i64 {m : Int} (h : (Lit.int .i64 m).wf = true) : -9223372036854775808 ≤ m ∧ m ≤ 9223372036854775807 := by
  simp only [Lit.wf, Bool.and_eq_true, decide_eq_true_eq] at h
  exact h
theorem wf_u64 {m : Int} (h : (Lit.int .u64 m).wf = true) : 0 ≤ m ∧ m ≤ 18446744073709551615 := by
  simp only [Lit.wf, Bool.and_eq_true, decide_eq_true_eq] at h
  exact h

set_option maxHeartbeats 1000000 in
theorem word_any {r : Nat} {s : Option Addr} {n c p : Nat} {w : World} (h : Hid (Rd w r s n c p)) :
    Calls Try.prog 42 #[.pointer (some ⟨r, 0, none⟩)] w fun e w' => ∃ x : Int, ∃ p', e = .returned (.int .u64 x) ∧ (Lit.int .u64 x).wf = true ∧ Rd w' r s n c p' ∧ Beside r w w' := by
  go_enter Try.func42, Try.ntmps42
  go_wp2
  go_loopw [3, 4] (fun a b wr => ∃ (x : Int) (k : Nat) (p' : Nat), a = .int .u64 x ∧ b = .int .i64 k ∧ (Lit.int .u64 x).wf = true ∧ k ≤ 8 ∧ Hid (Rd wr r s n c p') ∧ Hid (Beside r w wr)) (fun a b _ => 8 - (intOf b).toNat)
  case atStart =>
    have b : Below w.heap.size w w := Below.refl _ _
    exact ⟨0, 0, p, rfl, rfl, by decide, by omega, h, Beside.of b⟩
  case round =>
    obtain ⟨x, k, p', rfl, rfl, hx, hk, R, B⟩ := hrel
    by_cases hk8 : k < 8
    · go_wp2_with fail
      refine (next_any R.out).mono ?_
      rintro e w1 ⟨l, p1, rfl, l0, l1, R1, b1⟩
      go_wp2
      go_roundw
      case rel =>
        exact ⟨_, k + 1, p1, rfl, by go_num, wf_bits _ _ _ _, by omega, R1, B.out.trans b1⟩
      case measure => simp [intOf]; omega
    · obtain rfl : k = 8 := by omega
      go_wp2
      go_ret
      exact ⟨x, p', rfl, hx, R.out, B.out⟩

end Go.Proofs.Ytjahjhddokaopaa
