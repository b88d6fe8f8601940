/-
What is proved: a number that a reader draws between two or just outside.
-/
import Derived.Test.YtkocbklkiehdiaaRd2
namespace Go.Proofs.Ytkocbklkiehdiaa
set_option maxRecDepth 40000
open Go.RowKit
set_option linter.unusedVariables false

theorem Beside.later {r : Nat} {w w1 w2 : World} (h : Beside r w w1) (b : Below w1.heap.size w1 w2) : Beside r w w2 := h.trans (Beside.of b)

theorem wfi {m : Int} (h : -9223372036854775808 ≤ m) (h' : m ≤ 9223372036854775807) : (Lit.int .i64 m).wf = true := by
  simp only [Lit.wf, Bool.and_eq_true, decide_eq_true_eq]
  exact ⟨h, h'⟩

theorem Beside.fresh {r : Nat} {w x : World} (h : Beside r w x) {q : Addr} (hq : w.heap.size ≤ q.block) (u : Value) : Beside r w (x.setCell q u) := by
  obtain ⟨h1, h2, h3, h4, h5⟩ := h
  exact ⟨h1, h2, h3, by simpa [World.setCell] using h4, fun k hk hn => (Below.heap_setCell _ _ _ _ (by omega)).trans (h5 k hk hn)⟩
theorem Rd.below' {w w' : World} {r : Nat} {s : Option Addr} {n c p : Nat} (h : Rd w r s n c p) (hb : Below (r + 1) w w') : Rd w' r s n c p := by
  obtain ⟨h1, h2, h3, h4, h5, h6, h7⟩ := h
  refine ⟨Nat.lt_of_lt_of_le h1 hb.size, fun o => (hb.frozen (p := ⟨r, o, none⟩) (Nat.lt_succ_self r)).trans (h2 o), (hb.cell (p := ⟨r, 0, none⟩) (Nat.lt_succ_self r)).trans h3, (hb.cell (p := ⟨r, 1, none⟩) (Nat.lt_succ_self r)).trans h4, h5, h6, fun i hi => ?_⟩
  obtain ⟨g, o, k, e, hg, hc, hk⟩ := h7 i hi
  exact ⟨g, o, k, e, hg, (hb.cell (p := ⟨g, o + i, none⟩) (Nat.lt_succ_of_lt hg)).trans hc, hk⟩

set_option maxHeartbeats 2000000 in
theorem off_any {r : Nat} {s : Option Addr} {n c p : Nat} {w : World} (lo hi : Int) (h1 : -1000000000000000000 ≤ lo) (h2 : lo ≤ hi) (h3 : hi ≤ 1000000000000000000) (h : Hid (Rd w r s n c p)) :
    Calls Try.prog 66 #[.pointer (some ⟨r, 0, none⟩), .int .i64 lo, .int .i64 hi] w fun e w' => ∃ k p', e = .returned (.int .i64 k) ∧ (Lit.int .i64 k).wf = true ∧ Rd w' r s n c p' ∧ Beside r w w' := by
  go_enter Try.func66, Try.ntmps66
  go_wp2_with fail
  refine (once_any 24 (by omega) (by omega) h).mono ?_
  rintro e w1 ⟨b, p1, rfl, R1, b1⟩
  cases b
  · go_wp2_with fail
    refine (near_any lo hi h1 h2 h3 R1).mono ?_
    rintro e w2 ⟨k, p2, rfl, k0, k1, R2, b2⟩
    go_wp2
    go_ret
    exact ⟨k, p2, rfl, wfi (by omega) (by omega), R2, b1.trans b2⟩
  · go_wp2_with fail
    refine (below_any 4 (Rd.below R1 (below0 w1 _))).mono ?_
    rintro e w2 ⟨j, p2, rfl, j0, j1, j2, R2, b2⟩
    have b3 : Beside r w w2 := (b1.later (below0 w1 _)).trans b2
    have zr : w1.heap.size ≠ r := by have := R1.1; omega
    have zs : w1.heap.size < w2.heap.size := by have := b2.2.2.2.1; simp at this; omega
    have hc : ∀ i, w2.cell? ⟨w1.heap.size, i, none⟩ = (w1.alloc (.cells #[.int .i64 (lo - 1), .int .i64 (hi + 1), .int .i64 (-9223372036854775808), .int .i64 9223372036854775807] 2)).cell? ⟨w1.heap.size, i, none⟩ := fun i => b2.cell (p := ⟨w1.heap.size, i, none⟩) (by simp) zr
    have jj : j = 0 ∨ j = 1 ∨ j = 2 ∨ j = 3 := by omega
    clear j0 j1 j2
    rcases jj with rfl | rfl | rfl | rfl
    · have hq := (hc 0).trans (show _ = some (.int .i64 (lo - 1)) by simp [go_sem])
      clear hc
      go_wp2
      go_ret
      exact ⟨(lo - 1), p2, rfl, wfi (by omega) (by omega), R2, b3⟩
    · have hq := (hc 1).trans (show _ = some (.int .i64 (hi + 1)) by simp [go_sem])
      clear hc
      go_wp2
      go_ret
      exact ⟨(hi + 1), p2, rfl, wfi (by omega) (by omega), R2, b3⟩
    · have hq := (hc 2).trans (show _ = some (.int .i64 (-9223372036854775808)) by simp [go_sem])
      clear hc
      go_wp2
      go_ret
      exact ⟨(-9223372036854775808), p2, rfl, by decide, R2, b3⟩
    · have hq := (hc 3).trans (show _ = some (.int .i64 9223372036854775807) by simp [go_sem])
      clear hc
      go_wp2
      go_ret
      exact ⟨9223372036854775807, p2, rfl, by decide, R2, b3⟩
end Go.Proofs.Ytkocbklkiehdiaa
