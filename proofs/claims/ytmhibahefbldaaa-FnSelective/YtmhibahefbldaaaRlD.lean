/-
What is proved: a relay and a feeder that are drawn from a code: at most 21 relays, any int64s.
-/
import Derived.Test.YtmhibahefbldaaaRlU
import Derived.Deep.RegionHeld3
import Derived.Deep.DeepCutAuto
namespace Go.Proofs.Ytmhibahefbldaaa
set_option maxRecDepth 40000
open Go.RowKit
set_option linter.unusedVariables false
set_option linter.unusedSimpArgs false

set_option maxRecDepth 20000 in
set_option maxHeartbeats 8000000 in
theorem relay_any {r : Nat} {s : Option Addr} {n c p : Nat} {w : World} (h : Hid (Rd w r s n c p)) :
    Calls Try.prog 46 #[.pointer (some ⟨r, 0, none⟩)] w fun e w' => ∃ x y p', e = .returned (.agg #[.int .i64 x, .int .i64 y]) ∧ Rd w' r s n c p' ∧ Beside r w w' := by
  have zr : r < w.heap.size := h.out.1
  go_enter Try.func46, Try.ntmps46
  go_wp2_with fail
  refine (near_any 1 400 (by omega) (by omega) (by omega) (Rd.below h.out (below0 w _))).mono ?_
  rintro e w2 ⟨x, p2, rfl, xa, xb, R2, b2⟩
  have HR2 : Hid (Rd w2 r s n c p2) := R2
  have q0 := (b2.cell (p := ⟨w.heap.size, 0, none⟩) (by simp) (by simp only; omega))
  have q1 := (b2.cell (p := ⟨w.heap.size, 1, none⟩) (by simp) (by simp only; omega))
  have f0 := (b2.frozen (p := ⟨w.heap.size, 0, none⟩) (by simp) (by simp only; omega))
  have f1 := (b2.frozen (p := ⟨w.heap.size, 1, none⟩) (by simp) (by simp only; omega))
  simp [go_sem] at q0 q1 f0 f1
  have B2 : Beside r w w2 := (Beside.of (below0 w _)).trans b2
  have z2 : w.heap.size < w2.heap.size := by have := b2.2.2.2.1; simp at this; omega
  clear R2 b2
  go_wp2_with fail
  refine (near_any 1 100 (by omega) (by omega) (by omega) HR2.out).mono ?_
  rintro e w3 ⟨y, p3, rfl, ya, yb, R3, b3⟩
  have HR3 : Hid (Rd w3 r s n c p3) := R3
  replace q0 := (b3.cell (p := ⟨w.heap.size, 0, none⟩) z2 (by simp only; omega)).trans q0
  replace q1 := (b3.cell (p := ⟨w.heap.size, 1, none⟩) z2 (by simp only; omega)).trans q1
  replace f0 := (b3.frozen (p := ⟨w.heap.size, 0, none⟩) z2 (by simp only; omega)).trans f0
  replace f1 := (b3.frozen (p := ⟨w.heap.size, 1, none⟩) z2 (by simp only; omega)).trans f1
  have B3 : Beside r w w3 := B2.trans b3
  have z3 : w.heap.size < w3.heap.size := Nat.lt_of_lt_of_le z2 b3.2.2.2.1
  clear R3 b3 HR2 B2 z2
  go_wp2_with fail
  refine (below_any 40 (Rd.below HR3.out (below0 w3 _))).mono ?_
  rintro e w4 ⟨kk, p4, rfl, k0, k1, k2, R4, b4⟩
  have HR4 : Hid (Rd w4 r s n c p4) := R4
  have g0 := (b4.cell (p := ⟨w3.heap.size, 0, none⟩) (by simp) (by simp only; omega))
  have g1 := (b4.cell (p := ⟨w3.heap.size, 1, none⟩) (by simp) (by simp only; omega))
  have j0 := (b4.frozen (p := ⟨w3.heap.size, 0, none⟩) (by simp) (by simp only; omega))
  have j1 := (b4.frozen (p := ⟨w3.heap.size, 1, none⟩) (by simp) (by simp only; omega))
  have hq0 := (b4.cell (p := ⟨w.heap.size, 0, none⟩) (by simp; omega) (by simp only; omega))
  have hq1 := (b4.cell (p := ⟨w.heap.size, 1, none⟩) (by simp; omega) (by simp only; omega))
  have hf0 := (b4.frozen (p := ⟨w.heap.size, 0, none⟩) (by simp; omega) (by simp only; omega))
  have hf1 := (b4.frozen (p := ⟨w.heap.size, 1, none⟩) (by simp; omega) (by simp only; omega))
  simp [go_sem, q0, q1, f0, f1, z3] at g0 g1 j0 j1 hq0 hq1 hf0 hf1
  have B4 : Beside r w w4 := (B3.trans (Beside.of (below0 w3 _))).trans b4
  have z4 : w3.heap.size < w4.heap.size := by have := b4.2.2.2.1; simp at this; omega
  have zw : w.heap.size < w4.heap.size := by omega
  have ne : w3.heap.size ≠ w.heap.size := by omega
  clear R4 b4 HR3 B3 q0 q1 f0 f1
  by_cases e0 : kk = 0
  · subst e0
    go_wp2_with fail
    refine (off_any 1 100000 (by omega) (by omega) (by omega) HR4.out).mono ?_
    rintro e w5 ⟨x', p5, rfl, wx, R5, b5⟩
    have HR5 : Hid (Rd w5 r s n c p5) := R5
    replace g0 := (b5.cell (p := ⟨w3.heap.size, 0, none⟩) z4 (by simp only; omega)).trans g0
    replace g1 := (b5.cell (p := ⟨w3.heap.size, 1, none⟩) z4 (by simp only; omega)).trans g1
    replace j0 := (b5.frozen (p := ⟨w3.heap.size, 0, none⟩) z4 (by simp only; omega)).trans j0
    replace hq0 := (b5.cell (p := ⟨w.heap.size, 0, none⟩) zw (by simp only; omega)).trans hq0
    replace hq1 := (b5.cell (p := ⟨w.heap.size, 1, none⟩) zw (by simp only; omega)).trans hq1
    replace hf0 := (b5.frozen (p := ⟨w.heap.size, 0, none⟩) zw (by simp only; omega)).trans hf0
    replace hf1 := (b5.frozen (p := ⟨w.heap.size, 1, none⟩) zw (by simp only; omega)).trans hf1
    have B5 : Hid (Beside r w w5) := B4.trans b5
    have z5 : w3.heap.size < w5.heap.size := Nat.lt_of_lt_of_le z4 b5.2.2.2.1
    clear R5 b5
    go_wp2
    exact bodyPost_ret (v := .agg #[.int .i64 x', .int .i64 y]) (by simp [results, Try.results46, go_sem, hq0, hq1, g0, g1]) rfl ⟨x', y, p5, rfl, Rd.below' HR5.out (show Below (r + 1) w5 _ from (by repeat (first | with_reducible exact Below.refl _ _ | with_reducible refine Below.setCell ?_ (by first | omega | (simp; done) | (simp; omega)) _ | with_reducible refine bDrewN ?_ _ | with_reducible refine Below.drew ?_ | with_reducible refine Below.alloc ?_ (by first | omega | (simp; done) | (simp; omega)) _))), B5.out.on (show Below w.heap.size w5 _ from (by repeat (first | with_reducible exact Below.refl _ _ | with_reducible refine Below.setCell ?_ (by first | omega | (simp; done) | (simp; omega)) _ | with_reducible refine bDrewN ?_ _ | with_reducible refine Below.drew ?_ | with_reducible refine Below.alloc ?_ (by first | omega | (simp; done) | (simp; omega)) _)))⟩
  have n0 : (kk == 0) = false := by simpa using e0
  by_cases e1 : kk = 1
  · subst e1
    go_wp2_with fail
    refine (off_any 1 100 (by omega) (by omega) (by omega) HR4.out).mono ?_
    rintro e w5 ⟨y', p5, rfl, wy, R5, b5⟩
    have HR5 : Hid (Rd w5 r s n c p5) := R5
    replace g0 := (b5.cell (p := ⟨w3.heap.size, 0, none⟩) z4 (by simp only; omega)).trans g0
    replace g1 := (b5.cell (p := ⟨w3.heap.size, 1, none⟩) z4 (by simp only; omega)).trans g1
    replace j1 := (b5.frozen (p := ⟨w3.heap.size, 1, none⟩) z4 (by simp only; omega)).trans j1
    replace hq0 := (b5.cell (p := ⟨w.heap.size, 0, none⟩) zw (by simp only; omega)).trans hq0
    replace hq1 := (b5.cell (p := ⟨w.heap.size, 1, none⟩) zw (by simp only; omega)).trans hq1
    replace hf0 := (b5.frozen (p := ⟨w.heap.size, 0, none⟩) zw (by simp only; omega)).trans hf0
    replace hf1 := (b5.frozen (p := ⟨w.heap.size, 1, none⟩) zw (by simp only; omega)).trans hf1
    have B5 : Hid (Beside r w w5) := B4.trans b5
    have z5 : w3.heap.size < w5.heap.size := Nat.lt_of_lt_of_le z4 b5.2.2.2.1
    clear R5 b5
    go_wp2
    exact bodyPost_ret (v := .agg #[.int .i64 x, .int .i64 y']) (by simp [results, Try.results46, go_sem, hq0, hq1, g0, g1]) rfl ⟨x, y', p5, rfl, Rd.below' HR5.out (show Below (r + 1) w5 _ from (by repeat (first | with_reducible exact Below.refl _ _ | with_reducible refine Below.setCell ?_ (by first | omega | (simp; done) | (simp; omega)) _ | with_reducible refine bDrewN ?_ _ | with_reducible refine Below.drew ?_ | with_reducible refine Below.alloc ?_ (by first | omega | (simp; done) | (simp; omega)) _))), B5.out.on (show Below w.heap.size w5 _ from (by repeat (first | with_reducible exact Below.refl _ _ | with_reducible refine Below.setCell ?_ (by first | omega | (simp; done) | (simp; omega)) _ | with_reducible refine bDrewN ?_ _ | with_reducible refine Below.drew ?_ | with_reducible refine Below.alloc ?_ (by first | omega | (simp; done) | (simp; omega)) _)))⟩
  have n1 : (kk == 1) = false := by simpa using e1
  have B5 : Hid (Beside r w w4) := B4
  go_wp2
  exact bodyPost_ret (v := .agg #[.int .i64 x, .int .i64 y]) (by simp [results, Try.results46, go_sem, hq0, hq1, g0, g1]) rfl ⟨x, y, p4, rfl, Rd.below' HR4.out (show Below (r + 1) w4 _ from (by repeat (first | with_reducible exact Below.refl _ _ | with_reducible refine Below.setCell ?_ (by first | omega | (simp; done) | (simp; omega)) _ | with_reducible refine bDrewN ?_ _ | with_reducible refine Below.drew ?_ | with_reducible refine Below.alloc ?_ (by first | omega | (simp; done) | (simp; omega)) _))), B5.out.on (show Below w.heap.size w4 _ from (by repeat (first | with_reducible exact Below.refl _ _ | with_reducible refine Below.setCell ?_ (by first | omega | (simp; done) | (simp; omega)) _ | with_reducible refine bDrewN ?_ _ | with_reducible refine Below.drew ?_ | with_reducible refine Below.alloc ?_ (by first | omega | (simp; done) | (simp; omega)) _)))⟩
end Go.Proofs.Ytmhibahefbldaaa
