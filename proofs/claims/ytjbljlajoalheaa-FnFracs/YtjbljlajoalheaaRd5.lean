/-
What is proved: a reader that is opened on a code; two fractions that are drawn from a code.
-/
import Derived.Test.YtjbljlajoalheaaRd4
namespace Go.Proofs.Ytjbljlajoalheaa
set_option maxRecDepth 40000
open Go.RowKit
set_option linter.unusedVariables false

/-- A CODE of n bytes. -/
def Code8 (w : World) (s : Option Addr) (n : Nat) : Prop :=
  n ≤ 1048576 ∧ ∀ i, i < n → ∃ g o k, s = some ⟨g, o, none⟩ ∧ g < w.heap.size ∧ w.cell? ⟨g, o + i, none⟩ = some (.int .u8 k) ∧ 0 ≤ k ∧ k < 256
theorem Code8.below {w w' : World} {s : Option Addr} {n : Nat} (h : Code8 w s n) (hb : Below w.heap.size w w') : Code8 w' s n :=
  ⟨h.1, fun i hi => by
    obtain ⟨g, o, k, e, hg, hc, hk⟩ := h.2 i hi
    exact ⟨g, o, k, e, Nat.lt_of_lt_of_le hg hb.size, (hb.cell (p := ⟨g, o + i, none⟩) hg).trans hc, hk⟩⟩

set_option maxHeartbeats 400000 in
theorem open_any {s : Option Addr} {n c : Nat} {w : World} (h : Hid (Code8 w s n)) :
    Calls Try.prog 31 #[.slice s n c] w fun e w' => e = .returned (.pointer (some ⟨w.heap.size, 0, none⟩)) ∧ Rd w' w.heap.size s n c 0 ∧ Below w.heap.size w w' := by
  go_enter Try.func31, Try.ntmps31
  go_wp2
  go_ret
  refine ⟨rfl, ⟨by simp, fun o => by simp [go_sem], by simp [go_sem], by simp [go_sem], by omega, h.out.1, fun i hi => ?_⟩, (by repeat (first | with_reducible exact Below.refl _ _ | with_reducible refine Below.setCell ?_ (by first | omega | (simp; done) | (simp; omega)) _ | with_reducible refine bDrewN ?_ _ | with_reducible refine Below.drew ?_ | with_reducible refine Below.alloc ?_ (by first | omega | (simp; done) | (simp; omega)) _))⟩
  obtain ⟨g, o, k, e, hg, hc, hk⟩ := h.out.2 i hi
  exact ⟨g, o, k, e, hg, ((below0 w _).cell (p := ⟨g, o + i, none⟩) hg).trans hc, hk⟩

set_option maxHeartbeats 1000000 in
theorem drawAddFrac_any {s : Option Addr} {n c : Nat} {w : World} (h : Hid (Code8 w s n)) :
    Calls Try.prog 18 #[.slice s n c] w fun e w' => ∃ a b x y, e = .returned (.tuple #[.agg #[.int .i64 a, .int .i64 b], .agg #[.int .i64 x, .int .i64 y]]) ∧ (Lit.int .i64 a).wf = true ∧ (Lit.int .i64 b).wf = true ∧ (Lit.int .i64 x).wf = true ∧ (Lit.int .i64 y).wf = true ∧ Below w.heap.size w w' := by
  go_enter Try.func18, Try.ntmps18
  go_wp2_with fail
  refine (open_any (h.out.below (by repeat (first | with_reducible exact Below.refl _ _ | with_reducible refine Below.setCell ?_ (by first | omega | (simp; done) | (simp; omega)) _ | with_reducible refine bDrewN ?_ _ | with_reducible refine Below.drew ?_ | with_reducible refine Below.alloc ?_ (by first | omega | (simp; done) | (simp; omega)) _)))).mono ?_
  rintro e w1 ⟨rfl, R1, b1⟩
  have hc1 : ∀ a q, a < w.heap.size + 1 + 1 → w1.cell? ⟨a, q, none⟩ = _ := fun a q ha => b1.cell (p := ⟨a, q, none⟩) (by simpa using ha)
  have hf1 : ∀ a q, a < w.heap.size + 1 + 1 → w1.frozen? ⟨a, q, none⟩ = _ := fun a q ha => b1.frozen (p := ⟨a, q, none⟩) (by simpa using ha)
  have rr : ((w.alloc (.cells #[.int .i64 0, .int .i64 0] 36)).alloc (.cells #[.int .i64 0, .int .i64 0] 36)).heap.size = w.heap.size + 1 + 1 := by simp
  have z1 : w.heap.size + 1 + 1 < w1.heap.size := rr ▸ R1.1
  have B1 : Below w.heap.size w w1 := Below.trans (by repeat (first | with_reducible exact Below.refl _ _ | with_reducible refine Below.setCell ?_ (by first | omega | (simp; done) | (simp; omega)) _ | with_reducible refine bDrewN ?_ _ | with_reducible refine Below.drew ?_ | with_reducible refine Below.alloc ?_ (by first | omega | (simp; done) | (simp; omega)) _)) (b1.mono (by first | omega | (simp; done) | (simp; omega)))
  rw [rr] at R1
  go_wp2_with fail
  refine (frac_any R1).mono ?_
  rintro e w2 ⟨a, b, p2, rfl, ha, hb, R2, b2⟩
  go_wp2_with fail
  refine (frac_any R2).mono ?_
  rintro e w3 ⟨x, y, p3, rfl, hx, hy, R3, b3⟩
  have b4 : Beside (w.heap.size + 1 + 1) w1 w3 := b2.trans b3
  have e0 : w3.cell? ⟨w.heap.size, 0, none⟩ = some (.int .i64 0) := ((b4.cell (p := ⟨w.heap.size, 0, none⟩) (by simp; omega) (by simp; omega)).trans (hc1 _ _ (by omega))).trans (by simp [go_sem])
  have e1 : w3.cell? ⟨w.heap.size, 1, none⟩ = some (.int .i64 0) := ((b4.cell (p := ⟨w.heap.size, 1, none⟩) (by simp; omega) (by simp; omega)).trans (hc1 _ _ (by omega))).trans (by simp [go_sem])
  have e2 : w3.cell? ⟨w.heap.size + 1, 0, none⟩ = some (.int .i64 0) := ((b4.cell (p := ⟨w.heap.size + 1, 0, none⟩) (by simp; omega) (by simp)).trans (hc1 _ _ (by omega))).trans (by simp [go_sem])
  have e3 : w3.cell? ⟨w.heap.size + 1, 1, none⟩ = some (.int .i64 0) := ((b4.cell (p := ⟨w.heap.size + 1, 1, none⟩) (by simp; omega) (by simp)).trans (hc1 _ _ (by omega))).trans (by simp [go_sem])
  have f0 : ∀ q, w3.frozen? ⟨w.heap.size, q, none⟩ = false := fun q => ((b4.frozen (p := ⟨w.heap.size, q, none⟩) (by simp; omega) (by simp; omega)).trans (hf1 _ _ (by omega))).trans (by simp [go_sem])
  have f1 : ∀ q, w3.frozen? ⟨w.heap.size + 1, q, none⟩ = false := fun q => ((b4.frozen (p := ⟨w.heap.size + 1, q, none⟩) (by simp; omega) (by simp)).trans (hf1 _ _ (by omega))).trans (by simp [go_sem])
  have z3 : w.heap.size + 1 < w3.heap.size := by have := b4.2.2.2.1; omega
  have z3a : w.heap.size < w3.heap.size := by omega
  have B3 : Below w.heap.size w w3 := B1.trans (b4.below (by omega) (by omega))
  clear hc1 hf1 b1 b2 b3 b4 R1 R2 R3 z1
  go_wp2
  refine bodyPost_ret (v := .tuple #[.agg #[.int .i64 a, .int .i64 b], .agg #[.int .i64 x, .int .i64 y]]) (by simp [results, Try.results18, go_sem, e0, e1, e2, e3]) rfl ⟨a, b, x, y, rfl, ha, hb, hx, hy, ?_⟩
  exact (by repeat (first | with_reducible exact Below.refl _ _ | with_reducible exact B3 | with_reducible refine Below.setCell ?_ (by first | omega | (simp; done) | (simp; omega)) _ | with_reducible refine bDrewN ?_ _ | with_reducible refine Below.drew ?_ | with_reducible refine Below.alloc ?_ (by first | omega | (simp; done) | (simp; omega)) _))
end Go.Proofs.Ytjbljlajoalheaa
