/-
What is proved: a number that a reader draws between any two numbers, or outside; no bounds are asked.
-/
import Derived.Test.YtlbbdifmjdpfiaaZdA
namespace Go.Proofs.Ytlbbdifmjdpfiaa
set_option maxRecDepth 40000
open Go.ChangeShapes Go.WideShapes Go.ChangeAt Go.RowKit
set_option linter.unusedVariables false
set_option linter.unusedSimpArgs false

set_option maxHeartbeats 1000000 in
theorem near_all (lo hi : Int) {r : Nat} {s : Option Addr} {n c p : Nat} {w : World} (h : Hid (Rd w r s n c p)) :
    Calls Try.prog 73 #[.pointer (some ⟨r, 0, none⟩), .int .i64 lo, .int .i64 hi] w fun e w' => ∃ k p', e = .returned (.int .i64 k) ∧ Rd w' r s n c p' ∧ Beside r w w' := by
  obtain ⟨d, hd⟩ : ∃ d, wrap64 (hi - lo) = d := ⟨_, rfl⟩
  obtain ⟨d1, hd1⟩ : ∃ d1, wrap64 (d + 1) = d1 := ⟨_, rfl⟩
  have w1 : -9223372036854775808 ≤ d1 ∧ d1 ≤ 9223372036854775807 := by rw [← hd1]; unfold wrap64; omega
  have U : Hid (∀ w p, Rd w r s n c p → Calls Try.prog 88 #[.pointer (some ⟨r, 0, none⟩), .int .i64 d1] w fun e w' => ∃ k p', e = .returned (.int .i64 k) ∧ 0 ≤ k ∧ (k < d1 ∨ k = 0) ∧ Rd w' r s n c p' ∧ Beside r w w') := fun w p h => upto_any _ (wfi w1.1 w1.2) h
  clear w1
  go_enter Try.func73, Try.ntmps73
  go_wp2_with fail
  refine (below_any 8 h).mono ?_
  rintro e w1 ⟨k, p1, rfl, k0, k1, k2, R1, b1⟩
  by_cases e0 : k = 0
  · subst e0
    go_wp2
    go_ret
    exact ⟨lo, p1, rfl, R1, b1⟩
  · by_cases e1 : k = 1
    · subst e1
      go_wp2
      go_ret
      exact ⟨hi, p1, rfl, R1, b1⟩
    · go_wp2_with fail
      refine (U.out _ _ R1).mono ?_
      rintro e w2 ⟨j, p2, rfl, j0, j1, R2, b2⟩
      obtain ⟨q, hq⟩ : ∃ q, wrap64 (lo + j) = q := ⟨_, rfl⟩
      clear j0 j1
      go_wp2
      go_ret
      exact ⟨_, p2, rfl, R2, b1.trans b2⟩
set_option maxHeartbeats 2000000 in
theorem off_all (lo hi : Int) {r : Nat} {s : Option Addr} {n c p : Nat} {w : World} (h : Hid (Rd w r s n c p)) :
    Calls Try.prog 74 #[.pointer (some ⟨r, 0, none⟩), .int .i64 lo, .int .i64 hi] w fun e w' => ∃ k p', e = .returned (.int .i64 k) ∧ Rd w' r s n c p' ∧ Beside r w w' := by
  obtain ⟨l1, hl1⟩ : ∃ d, wrap64 (lo - 1) = d := ⟨_, rfl⟩
  obtain ⟨h1, hh1⟩ : ∃ d, wrap64 (hi + 1) = d := ⟨_, rfl⟩
  go_enter Try.func74, Try.ntmps74
  go_wp2_with fail
  refine (once_any 24 (by omega) (by omega) h).mono ?_
  rintro e w1 ⟨b, p1, rfl, R1, b1⟩
  cases b
  · go_wp2_with fail
    refine (near_all lo hi R1).mono ?_
    rintro e w2 ⟨k, p2, rfl, R2, b2⟩
    go_wp2
    go_ret
    exact ⟨k, p2, rfl, R2, b1.trans b2⟩
  · go_wp2_with fail
    refine (below_any 4 (Rd.below R1 (below0 w1 _))).mono ?_
    rintro e w2 ⟨j, p2, rfl, j0, j1, j2, R2, b2⟩
    have b3 : Beside r w w2 := (b1.later (below0 w1 _)).trans b2
    have zr : w1.heap.size ≠ r := by have := R1.1; omega
    have zs : w1.heap.size < w2.heap.size := by have := b2.2.2.2.1; simp at this; omega
    have hc : ∀ i, w2.cell? ⟨w1.heap.size, i, none⟩ = (w1.alloc (.cells #[.int .i64 l1, .int .i64 h1, .int .i64 (-9223372036854775808), .int .i64 9223372036854775807] 2)).cell? ⟨w1.heap.size, i, none⟩ := fun i => b2.cell (p := ⟨w1.heap.size, i, none⟩) (by simp) zr
    have jj : j = 0 ∨ j = 1 ∨ j = 2 ∨ j = 3 := by omega
    clear j0 j1 j2
    rcases jj with rfl | rfl | rfl | rfl
    · have hq := (hc 0).trans (show _ = some (.int .i64 (l1)) by simp [go_sem])
      clear hc
      go_wp2
      go_ret
      exact ⟨(l1), p2, rfl, R2, b3⟩
    · have hq := (hc 1).trans (show _ = some (.int .i64 (h1)) by simp [go_sem])
      clear hc
      go_wp2
      go_ret
      exact ⟨(h1), p2, rfl, R2, b3⟩
    · have hq := (hc 2).trans (show _ = some (.int .i64 (-9223372036854775808)) by simp [go_sem])
      clear hc
      go_wp2
      go_ret
      exact ⟨(-9223372036854775808), p2, rfl, R2, b3⟩
    · have hq := (hc 3).trans (show _ = some (.int .i64 (9223372036854775807)) by simp [go_sem])
      clear hc
      go_wp2
      go_ret
      exact ⟨(9223372036854775807), p2, rfl, R2, b3⟩
end Go.Proofs.Ytlbbdifmjdpfiaa
