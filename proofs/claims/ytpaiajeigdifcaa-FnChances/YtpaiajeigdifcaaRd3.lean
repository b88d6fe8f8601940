/-
What is proved: what a reader leaves when it draws a number: any int64.
-/
import Derived.Test.YtpaiajeigdifcaaRdO
namespace Go.Proofs.Ytpaiajeigdifcaa
set_option maxRecDepth 40000
open Go.RowKit
set_option linter.unusedVariables false

set_option maxHeartbeats 4000000 in
theorem number_any {r : Nat} {s : Option Addr} {n c p : Nat} {w : World} (h : Hid (Rd w r s n c p)) :
    Calls Try.prog 72 #[.pointer (some ⟨r, 0, none⟩)] w fun e w' => ∃ k p', e = .returned (.int .i64 k) ∧ (Lit.int .i64 k).wf = true ∧ Rd w' r s n c p' ∧ Beside r w w' := by
  go_enter Try.func72, Try.ntmps72
  go_wp2_with fail
  refine (below_any 5 h).mono ?_
  rintro e w1 ⟨k, p1, rfl, k0, k1, k2, R1, b1⟩
  by_cases e0 : k = 0
  · subst e0
    go_wp2_with fail
    refine (below_any 300 R1).mono ?_
    rintro e w2 ⟨j, p2, rfl, j0, j1, j2, R2, b2⟩
    go_wp2
    go_ret
    exact ⟨_, p2, rfl, wfi (by omega) (by omega), R2, b1.trans b2⟩
  · by_cases e1 : k = 1
    · subst e1
      go_wp2_with fail
      refine (below_any 12 (Rd.below R1 (below0 w1 _))).mono ?_
      rintro e w2 ⟨j, p2, rfl, j0, j1, j2, R2, b2⟩
      have b3 : Beside r w w2 := (b1.later (below0 w1 _)).trans b2
      have zr : w1.heap.size ≠ r := by have := R1.1; omega
      have zs : w1.heap.size < w2.heap.size := by have := b2.2.2.2.1; simp at this; omega
      have hc : ∀ i, w2.cell? ⟨w1.heap.size, i, none⟩ = (w1.alloc (.cells #[.int .i64 0, .int .i64 1, .int .i64 (-1), .int .i64 127, .int .i64 128, .int .i64 2147483648, .int .i64 1000000000, .int .i64 1000000001, .int .i64 (-1000000000), .int .i64 9007199254740993, .int .i64 9223372036854775807, .int .i64 (-9223372036854775808)] 2)).cell? ⟨w1.heap.size, i, none⟩ := fun i => b2.cell (p := ⟨w1.heap.size, i, none⟩) (by simp) zr
      have jj : j = 0 ∨ j = 1 ∨ j = 2 ∨ j = 3 ∨ j = 4 ∨ j = 5 ∨ j = 6 ∨ j = 7 ∨ j = 8 ∨ j = 9 ∨ j = 10 ∨ j = 11 := by omega
      clear j0 j1 j2
      rcases jj with rfl | rfl | rfl | rfl | rfl | rfl | rfl | rfl | rfl | rfl | rfl | rfl
      · have hq := (hc 0).trans (show _ = some (.int .i64 0) by simp [go_sem])
        clear hc
        go_wp2
        go_ret
        exact ⟨0, p2, rfl, by decide, R2, b3⟩
      · have hq := (hc 1).trans (show _ = some (.int .i64 1) by simp [go_sem])
        clear hc
        go_wp2
        go_ret
        exact ⟨1, p2, rfl, by decide, R2, b3⟩
      · have hq := (hc 2).trans (show _ = some (.int .i64 (-1)) by simp [go_sem])
        clear hc
        go_wp2
        go_ret
        exact ⟨(-1), p2, rfl, by decide, R2, b3⟩
      · have hq := (hc 3).trans (show _ = some (.int .i64 127) by simp [go_sem])
        clear hc
        go_wp2
        go_ret
        exact ⟨127, p2, rfl, by decide, R2, b3⟩
      · have hq := (hc 4).trans (show _ = some (.int .i64 128) by simp [go_sem])
        clear hc
        go_wp2
        go_ret
        exact ⟨128, p2, rfl, by decide, R2, b3⟩
      · have hq := (hc 5).trans (show _ = some (.int .i64 2147483648) by simp [go_sem])
        clear hc
        go_wp2
        go_ret
        exact ⟨2147483648, p2, rfl, by decide, R2, b3⟩
      · have hq := (hc 6).trans (show _ = some (.int .i64 1000000000) by simp [go_sem])
        clear hc
        go_wp2
        go_ret
        exact ⟨1000000000, p2, rfl, by decide, R2, b3⟩
      · have hq := (hc 7).trans (show _ = some (.int .i64 1000000001) by simp [go_sem])
        clear hc
        go_wp2
        go_ret
        exact ⟨1000000001, p2, rfl, by decide, R2, b3⟩
      · have hq := (hc 8).trans (show _ = some (.int .i64 (-1000000000)) by simp [go_sem])
        clear hc
        go_wp2
        go_ret
        exact ⟨(-1000000000), p2, rfl, by decide, R2, b3⟩
      · have hq := (hc 9).trans (show _ = some (.int .i64 9007199254740993) by simp [go_sem])
        clear hc
        go_wp2
        go_ret
        exact ⟨9007199254740993, p2, rfl, by decide, R2, b3⟩
      · have hq := (hc 10).trans (show _ = some (.int .i64 9223372036854775807) by simp [go_sem])
        clear hc
        go_wp2
        go_ret
        exact ⟨9223372036854775807, p2, rfl, by decide, R2, b3⟩
      · have hq := (hc 11).trans (show _ = some (.int .i64 (-9223372036854775808)) by simp [go_sem])
        clear hc
        go_wp2
        go_ret
        exact ⟨(-9223372036854775808), p2, rfl, by decide, R2, b3⟩
    · by_cases e2 : k = 2
      · subst e2
        go_wp2_with fail
        refine (word_any R1).mono ?_
        rintro e w2 ⟨x, p2, rfl, hx, R2, b2⟩
        go_wp2_with fail
        refine (below_any 60 R2).mono ?_
        rintro e w3 ⟨j, p3, rfl, j0, j1, j2, R3, b3⟩
        go_wp2
        go_ret
        exact ⟨_, p3, rfl, wrap64_wf _, R3, (b1.trans b2).trans b3⟩
      · go_wp2_with fail
        refine (below_any 20 R1).mono ?_
        rintro e w2 ⟨j, p2, rfl, j0, j1, j2, R2, b2⟩
        go_wp2
        go_ret
        exact ⟨j, p2, rfl, wfi (by omega) (by omega), R2, b1.trans b2⟩

end Go.Proofs.Ytpaiajeigdifcaa
