/-
What is proved: what a reader leaves when it reads a word, a number below another one, one between two.
-/
import Derived.Test.YtkocbklkiehdiaaRd
namespace Go.Proofs.Ytkocbklkiehdiaa
set_option maxRecDepth 40000
open Go.RowKit
set_option linter.unusedVariables false

theorem wrap64_id {n : Int} (h : -9223372036854775808 ≤ n) (h' : n ≤ 9223372036854775807) : wrap64 n = n := by unfold wrap64; omega
theorem wf_i64 {m : Int} (h : (Lit.int .i64 m).wf = true) : -9223372036854775808 ≤ m ∧ m ≤ 9223372036854775807 := by
  simp only [Lit.wf, Bool.and_eq_true, decide_eq_true_eq] at h
  exact h
theorem wf_u64 {m : Int} (h : (Lit.int .u64 m).wf = true) : 0 ≤ m ∧ m ≤ 18446744073709551615 := by
  simp only [Lit.wf, Bool.and_eq_true, decide_eq_true_eq] at h
  exact h

set_option maxHeartbeats 1000000 in
theorem word_any {r : Nat} {s : Option Addr} {n c p : Nat} {w : World} (h : Hid (Rd w r s n c p)) :
    Calls Try.prog 77 #[.pointer (some ⟨r, 0, none⟩)] w fun e w' => ∃ x : Int, ∃ p', e = .returned (.int .u64 x) ∧ (Lit.int .u64 x).wf = true ∧ Rd w' r s n c p' ∧ Beside r w w' := by
  go_enter Try.func77, Try.ntmps77
  go_wp2
  go_loopw [3, 4] (fun a b wr => ∃ (x : Int) (k : Nat) (p' : Nat), a = .int .u64 x ∧ b = .int .i64 k ∧ (Lit.int .u64 x).wf = true ∧ k ≤ 8 ∧ Hid (Rd wr r s n c p') ∧ Hid (Beside r w wr)) (fun a b _ => 8 - (intOf b).toNat)
  case atStart =>
    have b : Below w.heap.size w w := Below.refl _ _
    exact ⟨0, 0, p, rfl, rfl, by decide, by omega, h, Beside.of b⟩
  case round =>
    obtain ⟨x, k, p', rfl, rfl, hx, hk, R, B⟩ := hrel
    by_cases hk8 : k < 8
    · go_wp2_with fail
      refine (next_any R.out).mono ?_
      rintro e w1 ⟨l, p1, rfl, l0, l1, R1, b1⟩
      go_wp2
      go_roundw
      case rel =>
        exact ⟨_, k + 1, p1, rfl, by go_num, wf_bits _ _ _ _, by omega, R1, B.out.trans b1⟩
      case measure => simp [intOf]; omega
    · obtain rfl : k = 8 := by omega
      go_wp2
      go_ret
      exact ⟨x, p', rfl, hx, R.out, B.out⟩

set_option maxHeartbeats 1000000 in
theorem upto_any {r : Nat} {s : Option Addr} {n c p : Nat} {w : World} (m : Int) (hm : (Lit.int .i64 m).wf = true) (h : Hid (Rd w r s n c p)) :
    Calls Try.prog 76 #[.pointer (some ⟨r, 0, none⟩), .int .i64 m] w fun e w' => ∃ k p', e = .returned (.int .i64 k) ∧ 0 ≤ k ∧ (k < m ∨ k = 0) ∧ Rd w' r s n c p' ∧ Beside r w w' := by
  by_cases h1 : m ≤ 1
  · clear hm
    go_enter Try.func76, Try.ntmps76
    go_wp2
    go_ret
    have b : Below w.heap.size w w := Below.refl _ _
    exact ⟨0, p, rfl, by omega, .inr rfl, h.out, Beside.of b⟩
  · by_cases h2 : m ≤ 65536
    · have hm0 : 1 < m := by omega
      clear h1 hm
      go_enter Try.func76, Try.ntmps76
      go_wp2_with fail
      refine (below_any m h).mono ?_
      rintro e w1 ⟨k, p1, rfl, k0, k1, k2, R1, b1⟩
      go_wp2
      go_ret
      exact ⟨k, p1, rfl, k0, k2, R1, b1⟩
    · have hm0 : 65536 < m := by omega
      have hm1 : m < 9223372036854775808 := by
        have := wf_i64 hm
        omega
      clear h1 h2 hm
      go_enter Try.func76, Try.ntmps76
      go_wp2_with fail
      refine (word_any h).mono ?_
      rintro e w1 ⟨x, p1, rfl, hx, R1, b1⟩
      go_wp2
      go_ret
      have x0 : 0 ≤ x := (wf_u64 hx).1
      have q1 := Int.tmod_nonneg m (show 0 ≤ x / 2 by omega)
      have q2 := Int.tmod_lt_of_pos (x / 2) (show 0 < m by omega)
      exact ⟨(x / 2).tmod m, p1, ret_int (wrap64_id (by omega) (by omega)), q1, .inl q2, R1, b1⟩

set_option maxHeartbeats 1000000 in
theorem near_any {r : Nat} {s : Option Addr} {n c p : Nat} {w : World} (lo hi : Int) (h1 : -1000000000000000000 ≤ lo) (h2 : lo ≤ hi) (h3 : hi ≤ 1000000000000000000) (h : Hid (Rd w r s n c p)) :
    Calls Try.prog 65 #[.pointer (some ⟨r, 0, none⟩), .int .i64 lo, .int .i64 hi] w fun e w' => ∃ k p', e = .returned (.int .i64 k) ∧ lo ≤ k ∧ k ≤ hi ∧ Rd w' r s n c p' ∧ Beside r w w' := by
  have U : Hid (∀ w p, Rd w r s n c p → Calls Try.prog 76 #[.pointer (some ⟨r, 0, none⟩), .int .i64 (hi - lo + 1)] w fun e w' => ∃ k p', e = .returned (.int .i64 k) ∧ 0 ≤ k ∧ (k < hi - lo + 1 ∨ k = 0) ∧ Rd w' r s n c p' ∧ Beside r w w') := fun w p h =>
    upto_any _ (by simp only [Lit.wf, Bool.and_eq_true, decide_eq_true_eq]; exact ⟨show (-9223372036854775808 : Int) ≤ _ by omega, show _ ≤ (9223372036854775807 : Int) by omega⟩) h
  go_enter Try.func65, Try.ntmps65
  go_wp2_with fail
  refine (below_any 8 h).mono ?_
  rintro e w1 ⟨k, p1, rfl, k0, k1, k2, R1, b1⟩
  by_cases e0 : k = 0
  · subst e0
    go_wp2
    go_ret
    exact ⟨lo, p1, rfl, by omega, by omega, R1, b1⟩
  · by_cases e1 : k = 1
    · subst e1
      go_wp2
      go_ret
      exact ⟨hi, p1, rfl, by omega, by omega, R1, b1⟩
    · go_wp2_with fail
      refine (U.out _ _ R1).mono ?_
      rintro e w2 ⟨j, p2, rfl, j0, j1, R2, b2⟩
      go_wp2
      go_ret
      exact ⟨lo + j, p2, rfl, by omega, by omega, R2, b1.trans b2⟩
end Go.Proofs.Ytkocbklkiehdiaa
