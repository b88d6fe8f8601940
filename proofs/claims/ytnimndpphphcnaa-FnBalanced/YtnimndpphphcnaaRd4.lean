/-
What is proved: what a reader leaves when it draws a fraction: any two int64s.
-/
import Derived.Test.YtnimndpphphcnaaRd3
import Derived.Test.YtnimndpphphcnaaFrac
namespace Go.Proofs.Ytnimndpphphcnaa
set_option maxRecDepth 40000
open Go.RowKit
set_option linter.unusedVariables false

theorem mk_wf (n d : Int) : (Lit.int .i64 (mkNum n d)).wf = true ∧ (Lit.int .i64 (mkDen n d)).wf = true := by
  cases ho : mkOk n d
  · have e1 : mkNum n d = 0 := by simp [mkNum, ho]
    have e2 : mkDen n d = 0 := by simp [mkDen, ho]
    rw [e1, e2]; exact ⟨by decide, by decide⟩
  · have hb := ho
    unfold mkOk at hb; rw [decide_eq_true_iff] at hb
    generalize gn : n.natAbs / Nat.gcd n.natAbs d.natAbs = A at hb
    generalize gd : d.natAbs / Nat.gcd n.natAbs d.natAbs = B at hb
    constructor
    · unfold mkNum; rw [if_pos ho, gn]
      split <;> exact wfi (by omega) (by omega)
    · unfold mkDen; rw [if_pos ho, gd]
      exact wfi (by omega) (by omega)

set_option maxHeartbeats 2000000 in
theorem frac_any {r : Nat} {s : Option Addr} {n c p : Nat} {w : World} (h : Hid (Rd w r s n c p)) :
    Calls Try.prog 28 #[.pointer (some ⟨r, 0, none⟩)] w fun e w' => ∃ a b p', e = .returned (.agg #[.int .i64 a, .int .i64 b]) ∧ (Lit.int .i64 a).wf = true ∧ (Lit.int .i64 b).wf = true ∧ Rd w' r s n c p' ∧ Beside r w w' := by
  go_enter Try.func28, Try.ntmps28
  go_wp2_with fail
  refine (once_any 14 (by omega) (by omega) (Rd.below h.out (below0 w _))).mono ?_
  rintro e w1 ⟨b, p1, rfl, R1, b1⟩
  have B1 : Beside r w w1 := (Beside.of (below0 w _)).trans b1
  have zr : w.heap.size ≠ r := by have := h.out.1; omega
  have z1 : w.heap.size < w1.heap.size := by have := b1.2.2.2.1; simp at this; omega
  have hf1 : ∀ q, w1.frozen? ⟨w.heap.size, q, none⟩ = false := fun q => (b1.frozen (p := ⟨w.heap.size, q, none⟩) (by simp) zr).trans (by simp [go_sem])
  have c10 : w1.cell? ⟨w.heap.size, 0, none⟩ = some (.int .i64 0) := (b1.cell (p := ⟨w.heap.size, 0, none⟩) (by simp) zr).trans (by simp [go_sem])
  have c11 : w1.cell? ⟨w.heap.size, 1, none⟩ = some (.int .i64 0) := (b1.cell (p := ⟨w.heap.size, 1, none⟩) (by simp) zr).trans (by simp [go_sem])
  cases b
  · go_wp2_with fail
    refine (below_any 5 (Rd.below R1 (below0 w1 _))).mono ?_
    rintro e w2 ⟨j, p2, rfl, j0, j1, j2, R2, b2⟩
    have zq : w1.heap.size ≠ r := by have := R1.1; omega
    have z2 : w1.heap.size < w2.heap.size := by have := b2.2.2.2.1; simp at this; omega
    have hq : ∃ jn : Nat, ∃ v : Int, j = jn ∧ jn < 5 ∧ w2.cell? ⟨w1.heap.size, jn, none⟩ = some (.int .i64 v) ∧ 1 ≤ v ∧ v ≤ 1000000000 := by
      have hc : ∀ i, w2.cell? ⟨w1.heap.size, i, none⟩ = (w1.alloc (.cells #[.int .i64 1, .int .i64 12, .int .i64 60, .int .i64 1000, .int .i64 1000000000] 2)).cell? ⟨w1.heap.size, i, none⟩ := fun i => b2.cell (p := ⟨w1.heap.size, i, none⟩) (by simp) zq
      have jj : j = 0 ∨ j = 1 ∨ j = 2 ∨ j = 3 ∨ j = 4 := by omega
      rcases jj with rfl | rfl | rfl | rfl | rfl
      · exact ⟨0, 1, rfl, by omega, (hc 0).trans (by simp [go_sem]), by omega, by omega⟩
      · exact ⟨1, 12, rfl, by omega, (hc 1).trans (by simp [go_sem]), by omega, by omega⟩
      · exact ⟨2, 60, rfl, by omega, (hc 2).trans (by simp [go_sem]), by omega, by omega⟩
      · exact ⟨3, 1000, rfl, by omega, (hc 3).trans (by simp [go_sem]), by omega, by omega⟩
      · exact ⟨4, 1000000000, rfl, by omega, (hc 4).trans (by simp [go_sem]), by omega, by omega⟩
    obtain ⟨jn, v, rfl, jl, hv, v1, v2⟩ := hq
    have B2 : Beside r w1 w2 := (Beside.of (below0 w1 _)).trans b2
    have hf2 : ∀ q, w2.frozen? ⟨w.heap.size, q, none⟩ = false := fun q => (B2.frozen (p := ⟨w.heap.size, q, none⟩) z1 zr).trans (hf1 q)
    have c20 : w2.cell? ⟨w.heap.size, 0, none⟩ = some (.int .i64 0) := (B2.cell (p := ⟨w.heap.size, 0, none⟩) z1 zr).trans c10
    have c21 : w2.cell? ⟨w.heap.size, 1, none⟩ = some (.int .i64 0) := (B2.cell (p := ⟨w.heap.size, 1, none⟩) z1 zr).trans c11
    have zw2 : w.heap.size < w2.heap.size := by omega
    have hr : r < w.heap.size := h.out.1
    have j5 : ((jn : Nat) : Int) < 5 := by omega
    clear c10 c11 hf1 j1 j2 jl
    go_wp2_with fail
    refine (upto_any v (wfi (by omega) (by omega)) R2).mono ?_
    rintro e w3 ⟨x, p3, rfl, x0, x1, R3, b3⟩
    have hx : x < 1000000000 := by omega
    clear x1
    go_wp2_with fail
    refine (near_any (-(1 + x)) (2 * (1 + x)) (by omega) (by omega) (by omega) R3).mono ?_
    rintro e w4 ⟨y, p4, rfl, y0, y1, R4, b4⟩
    go_wp2_with fail
    refine (specMakeFrac_any y (1 + x) _ (by omega) (by omega) (by omega) (by omega)).mono ?_
    rintro e w5 ⟨rfl, b5⟩
    have B5 : Beside r w2 w5 := (b3.trans b4).trans (Beside.of b5)
    have R5 : Rd w5 r s n c p4 := R4.below b5
    have hf5 : ∀ q, w5.frozen? ⟨w.heap.size, q, none⟩ = false := fun q => (B5.frozen (p := ⟨w.heap.size, q, none⟩) zw2 zr).trans (hf2 q)
    have c50 : w5.cell? ⟨w.heap.size, 0, none⟩ = some (.int .i64 0) := (B5.cell (p := ⟨w.heap.size, 0, none⟩) zw2 zr).trans c20
    have c51 : w5.cell? ⟨w.heap.size, 1, none⟩ = some (.int .i64 0) := (B5.cell (p := ⟨w.heap.size, 1, none⟩) zw2 zr).trans c21
    have z5 : w.heap.size < w5.heap.size := Nat.lt_of_lt_of_le zw2 B5.2.2.2.1
    have W5 : Beside r w w5 := (B1.trans B2).trans B5
    obtain ⟨m1, m2⟩ := mk_wf y (1 + x)
    generalize mkNum y (1 + x) = a at *
    generalize mkDen y (1 + x) = b at *
    generalize mkOk y (1 + x) = ok at *
    clear c20 c21 hf2 zw2 z2 hv b3 b4 b5 R4 R3 R2 R1 b1 b2
    cases ok
    · go_wp2
      refine bodyPost_ret (v := .agg #[.int .i64 0, .int .i64 1]) (by simp [results, Try.results28, go_sem, c50, c51, z5]) rfl ⟨0, 1, p4, rfl, by decide, by decide, R5.below' ?_, ?_⟩
      · exact (by repeat (first | with_reducible exact Below.refl _ _ | with_reducible refine Below.setCell ?_ (by first | omega | (simp; done) | (simp; omega)) _ | with_reducible refine bDrewN ?_ _ | with_reducible refine Below.drew ?_ | with_reducible refine Below.alloc ?_ (by first | omega | (simp; done) | (simp; omega)) _))
      · repeat (first | exact W5 | refine Beside.fresh ?_ (Nat.le_refl _) _ | refine Beside.later ?_ (below0 _ _))
    · go_wp2
      refine bodyPost_ret (v := .agg #[.int .i64 a, .int .i64 b]) (by simp [results, Try.results28, go_sem, c50, c51, z5]) rfl ⟨a, b, p4, rfl, m1, m2, R5.below' ?_, ?_⟩
      · exact (by repeat (first | with_reducible exact Below.refl _ _ | with_reducible refine Below.setCell ?_ (by first | omega | (simp; done) | (simp; omega)) _ | with_reducible refine bDrewN ?_ _ | with_reducible refine Below.drew ?_ | with_reducible refine Below.alloc ?_ (by first | omega | (simp; done) | (simp; omega)) _))
      · repeat (first | exact W5 | refine Beside.fresh ?_ (Nat.le_refl _) _ | refine Beside.later ?_ (below0 _ _))
  · go_wp2_with fail
    refine (number_any R1).mono ?_
    rintro e w2 ⟨a, p2, rfl, ha, R2, b2⟩
    go_wp2_with fail
    refine (number_any R2).mono ?_
    rintro e w3 ⟨b, p3, rfl, hb, R3, b3⟩
    have z3 : w.heap.size < w3.heap.size := Nat.lt_of_lt_of_le z1 (b2.trans b3).2.2.2.1
    have hf3 : ∀ q, w3.frozen? ⟨w.heap.size, q, none⟩ = false := fun q => ((b2.trans b3).frozen (p := ⟨w.heap.size, q, none⟩) z1 zr).trans (hf1 q)
    have c30 : w3.cell? ⟨w.heap.size, 0, none⟩ = some (.int .i64 0) := ((b2.trans b3).cell (p := ⟨w.heap.size, 0, none⟩) z1 zr).trans c10
    have c31 : w3.cell? ⟨w.heap.size, 1, none⟩ = some (.int .i64 0) := ((b2.trans b3).cell (p := ⟨w.heap.size, 1, none⟩) z1 zr).trans c11
    have B3 : Beside r w w3 := B1.trans (b2.trans b3)
    have hr : r < w.heap.size := h.out.1
    clear hf1 c10 c11
    go_wp2
    refine bodyPost_ret (v := .agg #[.int .i64 a, .int .i64 b]) (by simp [results, Try.results28, go_sem, c30, c31]) rfl ⟨a, b, p3, rfl, ha, hb, R3.below' ?_, (B3.fresh (Nat.le_refl _) _).fresh (Nat.le_refl _) _⟩
    exact (by repeat (first | with_reducible exact Below.refl _ _ | with_reducible refine Below.setCell ?_ (by first | omega | (simp; done) | (simp; omega)) _ | with_reducible refine bDrewN ?_ _ | with_reducible refine Below.drew ?_ | with_reducible refine Below.alloc ?_ (by first | omega | (simp; done) | (simp; omega)) _))
end Go.Proofs.Ytnimndpphphcnaa
