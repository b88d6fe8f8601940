/-
What is proved: what is drawn for a valve: any three int64s.
-/
import Derived.Test.YtkppgnpedbkbnaaRdO
import Derived.Test.YtkppgnpedbkbnaaRdC
namespace Go.Proofs.Ytkppgnpedbkbnaa
set_option maxRecDepth 40000
open Go.RowKit
set_option linter.unusedVariables false

set_option maxHeartbeats 2000000 in
theorem pressure_any {r : Nat} {s : Option Addr} {n c p : Nat} {w : World} (h : Hid (Rd w r s n c p)) :
    Calls Try.prog 30 #[.pointer (some ⟨r, 0, none⟩)] w fun e w' => ∃ k p', e = .returned (.int .i64 k) ∧ (Lit.int .i64 k).wf = true ∧ Rd w' r s n c p' ∧ Beside r w w' := by
  go_enter Try.func30, Try.ntmps30
  go_wp2_with fail
  refine (once_any 2 (by omega) (by omega) h).mono ?_
  rintro e w1 ⟨b, p1, rfl, R1, b1⟩
  cases b
  · go_wp2_with fail
    refine (off_any 10 20000 (by omega) (by omega) (by omega) R1).mono ?_
    rintro e w2 ⟨k, p2, rfl, k0, R2, b2⟩
    go_wp2
    go_ret
    exact ⟨k, p2, rfl, k0, R2, b1.trans b2⟩
  · go_wp2_with fail
    refine (below_any 8 (Rd.below R1 (below0 w1 _))).mono ?_
    rintro e w2 ⟨j, p2, rfl, j0, j1, j2, R2, b2⟩
    have b3 : Beside r w w2 := (b1.later (below0 w1 _)).trans b2
    have zr : w1.heap.size ≠ r := by have := R1.1; omega
    have zs : w1.heap.size < w2.heap.size := by have := b2.2.2.2.1; simp at this; omega
    have hq : ∃ jn : Nat, ∃ v : Int, j = jn ∧ jn < 8 ∧ w2.cell? ⟨w1.heap.size, jn, none⟩ = some (.int .i64 v) ∧ (Lit.int .i64 v).wf = true := by
      have hc : ∀ i, w2.cell? ⟨w1.heap.size, i, none⟩ = (w1.alloc (.cells #[.int .i64 10, .int .i64 100, .int .i64 1000, .int .i64 5000, .int .i64 10000, .int .i64 20000, .int .i64 11, .int .i64 19999] 2)).cell? ⟨w1.heap.size, i, none⟩ := fun i => b2.cell (p := ⟨w1.heap.size, i, none⟩) (by simp) zr
      have jj : j = 0 ∨ j = 1 ∨ j = 2 ∨ j = 3 ∨ j = 4 ∨ j = 5 ∨ j = 6 ∨ j = 7 := by omega
      rcases jj with rfl | rfl | rfl | rfl | rfl | rfl | rfl | rfl
      · exact ⟨0, 10, rfl, by omega, (hc 0).trans (by simp [go_sem]), by decide⟩
      · exact ⟨1, 100, rfl, by omega, (hc 1).trans (by simp [go_sem]), by decide⟩
      · exact ⟨2, 1000, rfl, by omega, (hc 2).trans (by simp [go_sem]), by decide⟩
      · exact ⟨3, 5000, rfl, by omega, (hc 3).trans (by simp [go_sem]), by decide⟩
      · exact ⟨4, 10000, rfl, by omega, (hc 4).trans (by simp [go_sem]), by decide⟩
      · exact ⟨5, 20000, rfl, by omega, (hc 5).trans (by simp [go_sem]), by decide⟩
      · exact ⟨6, 11, rfl, by omega, (hc 6).trans (by simp [go_sem]), by decide⟩
      · exact ⟨7, 19999, rfl, by omega, (hc 7).trans (by simp [go_sem]), by decide⟩
    obtain ⟨jn, v, rfl, jl, hq, hv⟩ := hq
    have j3 : (jn : Int) < 8 := by omega
    clear j0 j1 j2
    go_wp2
    go_ret
    exact ⟨v, p2, rfl, hv, R2, b3⟩

set_option maxHeartbeats 1000000 in
theorem drawThrottle_any {s : Option Addr} {n c : Nat} {w : World} (h : Hid (Code8 w s n)) :
    Calls Try.prog 10 #[.slice s n c] w fun e w' => ∃ a b x, e = .returned (.tuple #[.int .i64 a, .int .i64 b, .int .i64 x]) ∧ Below w.heap.size w w' := by
  go_enter Try.func10, Try.ntmps10
  go_wp2_with fail
  refine (open_any h).mono ?_
  rintro e w1 ⟨rfl, R1, b1⟩
  go_wp2_with fail
  refine (pressure_any R1).mono ?_
  rintro e w2 ⟨a, p2, rfl, ha, R2, b2⟩
  go_wp2_with fail
  refine (off_any 0 40000 (by omega) (by omega) (by omega) R2).mono ?_
  rintro e w3 ⟨b, p3, rfl, hb, R3, b3⟩
  obtain ⟨a1, a2⟩ := wf_i64 ha
  have OF : Hid (∀ m, (10 : Int) ≤ m → m ≤ 20000 → Calls Try.prog 31 #[.pointer (some ⟨w.heap.size, 0, none⟩), .int .i64 10, .int .i64 m] w3 fun e w' => ∃ k p', e = .returned (.int .i64 k) ∧ (Lit.int .i64 k).wf = true ∧ Rd w' w.heap.size s n c p' ∧ Beside w.heap.size w3 w') := fun m m0 m1 => off_any 10 m (by omega) (by omega) (by omega) R3
  have B3 : Below w.heap.size w w3 := b1.trans ((b2.trans b3).below (Nat.le_refl _) b1.size)
  have z3 := B3.size
  clear R1 R2 R3 b1 b2 b3
  go_wp2_with fail
  all_goals
    refine (OF.out _ (by omega) (by omega)).mono ?_
    rintro e w4 ⟨x, p4, rfl, hx, R4, b4⟩
    have B4 : Below w.heap.size w w4 := B3.trans (b4.below (Nat.le_refl _) z3)
    go_wp2
    exact bodyPost_ret (v := .tuple #[.int .i64 a, .int .i64 b, .int .i64 x]) (by simp [results, Try.results10, go_sem]) rfl ⟨a, b, x, rfl, (by repeat (first | with_reducible exact Below.refl _ _ | with_reducible exact B4 | with_reducible refine Below.setCell ?_ (by first | omega | (simp; done) | (simp; omega)) _ | with_reducible refine bDrewN ?_ _ | with_reducible refine Below.drew ?_ | with_reducible refine Below.alloc ?_ (by first | omega | (simp; done) | (simp; omega)) _))⟩
end Go.Proofs.Ytkppgnpedbkbnaa
